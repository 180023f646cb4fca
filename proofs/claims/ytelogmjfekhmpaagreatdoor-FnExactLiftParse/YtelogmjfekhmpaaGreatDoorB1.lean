import Derived.Test.YtelogmjfekhmpaaGreatDoorRows
import Derived.Test.YtelogmjfekhmpaaGreatDoorPlain
import Derived.WalkKit
import Derived.WalkSpells
import Derived.WalkLawsBesides
import Derived.Deep.OwnRows
namespace Go.Proofs.YtelogmjfekhmpaaGreatDoor
open Go.RowKit Go.Proofs.Tryz
theorem hidF{p:Prop}(h:p):Hid p:=h
def StrsIn(S:Nat->Prop)(w:World)(l:List ByteArray)(v:Value):Prop:=
 ∃(ao:Option Addr)(cap:Nat),v=.slice ao l.length cap/\l.length<=maxLen/\(∀s,s∈l->s.size<=maxLen) /\
  (l≠[]->∃b off,ao=some ⟨b,off,none⟩/\S b/\∀i (h:i<l.length),w.cell? ⟨b,off+i,none⟩=some (.string l[i]))
def RowIn{α:Type}(S:Nat->Prop)(w:World)(R:α->Value->Value->Value->Value->Value->Prop)(l:List α)(v:Value):Prop:=
 ∃(ao:Option Addr)(cap:Nat),v=.slice ao l.length cap/\l.length<=maxLen /\
  (l≠[]->∃b off,ao=some ⟨b,off,none⟩/\S b/\∀i (h:i<l.length),∃c0 c1 c2 c3 c4,w.cell? ⟨b,off+i*5,none⟩=some c0/\w.cell? ⟨b,off+i*5+1,none⟩=some c1 /\
   w.cell? ⟨b,off+i*5+2,none⟩=some c2/\w.cell? ⟨b,off+i*5+3,none⟩=some c3/\w.cell? ⟨b,off+i*5+4,none⟩=some c4/\R l[i] c0 c1 c2 c3 c4)
def TreeIn(S:Nat->Prop)(w:World):(n:Nat)->T n->Value->Value->Value->Value->Value->Prop
 | 0,_,_,_,_,_,_=>False
 | n + 1, t, c0, c1, c2, c3, c4 => c0 = .int .i64 (Nd.sort t) /\ c1 = .int .i64 (Nd.num t) /\ c2 = .string (Nd.text t) /\ (Nd.text t).size <= maxLen /\
   (Lit.int .i64 (Nd.sort t)).wf=true/\(Lit.int .i64 (Nd.num t)).wf=true/\StrsIn S w (Nd.names t) c3/\RowIn S w (TreeIn S w n) (Nd.kids t) c4
def Same(S:Nat->Prop)(w w':World):Prop:=∀b,S b->w'.heap[b]?=w.heap[b]?
theorem Same.cell{S:Nat->Prop}{w w':World}(h:Same S w w'){p:Addr}(hp:S p.block):w'.cell? p=w.cell? p:=World.cell?_of_block (w:=w) (h p.block hp)
theorem qaB{S:Nat->Prop}{B:Nat}{w w':World}(h:Below B w w')(hS:∀b,S b->b<B):Same S w w':=fun b hb=>h.block b (hS b hb)
theorem StrsIn.keep{S S':Nat->Prop}{w w':World}{l:List ByteArray}{v:Value}(h:StrsIn S w l v)(hb:Same S w w')(hS:∀b,S b->S' b):StrsIn S' w' l v:=by
 obtain⟨e,cap,f,g,j,k⟩:=h
 refine⟨e,cap,f,g,j,fun hne=>?_⟩
 obtain⟨b,c,m,d,a⟩:=k hne
 exact⟨b,c,m,hS b d,fun i hi=>(hb.cell (p:=⟨b,c+i,none⟩) d).trans (a i hi)⟩
theorem RowIn.keep {α:Type} {S S':Nat->Prop} {w w':World} {R R':α->Value->Value->Value->Value->Value->Prop} {l:List α} {v:Value} (h:RowIn S w R l v) (hb:Same S w w') (hS:∀ b,S b->S' b)
  (hR:∀x c0 c1 c2 c3 c4,x∈l->R x c0 c1 c2 c3 c4->R' x c0 c1 c2 c3 c4):RowIn S' w' R' l v:=by
 obtain⟨e,cap,f,g,j⟩:=h
 refine⟨e,cap,f,g,fun hne=>?_⟩
 obtain⟨b,a,k,d,c⟩:=j hne
 refine⟨b,a,k,hS b d,fun i hi=>?_⟩
 obtain⟨c0,c1,c2,c3,c4,m,n,o,q,r,s⟩:=c i hi
 exact⟨c0,c1,c2,c3,c4,(hb.cell (p:=⟨b,a+i*5,none⟩) d).trans m,(hb.cell (p:=⟨b,a+i*5+1,none⟩) d).trans n,(hb.cell (p:=⟨b,a+i*5+2,none⟩) d).trans o,
  (hb.cell (p:=⟨b,a+i*5+3,none⟩) d).trans q,(hb.cell (p:=⟨b,a+i*5+4,none⟩) d).trans r,hR _ _ _ _ _ _ (List.getElem_mem hi) s⟩
theorem TreeIn.keep{S S':Nat->Prop}{w w':World}(hb:Same S w w')(hS:∀b,S b->S' b):∀ {n:Nat} {t:T n} {c0 c1 c2 c3 c4:Value},TreeIn S w n t c0 c1 c2 c3 c4->TreeIn S' w' n t c0 c1 c2 c3 c4:=by
 intro n
 induction n with
 | zero=>intro t c0 c1 c2 c3 c4 h;exact h.elim
 | succ n ih=>
  intro t c0 c1 c2 c3 c4 h
  obtain⟨d,e,f,g,a,c,i,j⟩:=h
  exact⟨d,e,f,g,a,c,i.keep hb hS,j.keep hb hS fun x _ _ _ _ _ _ hx=>ih hx⟩
theorem RowIn.keepT{S S':Nat->Prop}{w w':World}{n:Nat}{l:List (T n)}{v:Value}(h:RowIn S w (TreeIn S w n) l v)(hb:Same S w w')(hS:∀b,S b->S' b):RowIn S' w' (TreeIn S' w' n) l v:=
 h.keep hb hS fun _ _ _ _ _ _ _ hx=>hx.keep hb hS
theorem qaA{B:Nat}{a b c:World}(h:Below B a b)(hs:B<=b.heap.size)(k:Below b.heap.size b c):Below B a c:=h.trans (k.mono hs)
theorem TreeIn.shape {S:Nat->Prop} {w:World}:∀ {n:Nat} {t:T n} {c0 c1 c2 c3 c4:Value},TreeIn S w n t c0 c1 c2 c3 c4 ->
  ∃(s m:Int)(x:ByteArray)(a:Option Addr)(l c:Nat)(a':Option Addr)(l' c':Nat),c0=.int .i64 s/\c1=.int .i64 m/\c2=.string x/\c3=.slice a l c/\c4=.slice a' l' c':=by
 intro n
 cases n with
 | zero=>intro t c0 c1 c2 c3 c4 h;exact h.elim
 | succ n=>
  intro t c0 c1 c2 c3 c4 h
  obtain⟨d,e,f,p,g,i,⟨q,cap,j,-⟩,⟨k,b,o,-⟩⟩:=h
  exact⟨_,_,_,_,_,_,_,_,_,d,e,f,j,o⟩
def put5(w:World)(b o:Nat)(g0 g1 g2 g3 g4:Value):World:=
 ((((w.setCell ⟨b,o,none⟩ g0).setCell ⟨b,o+1,none⟩ g1).setCell ⟨b,o+2,none⟩ g2).setCell ⟨b,o+3,none⟩ g3).setCell ⟨b,o+4,none⟩ g4
theorem qaQ{w:World}{b o:Nat}{g0 g1 g2 g3 g4:Value}{k:Nat}(h:k≠b):(put5 w b o g0 g1 g2 g3 g4).heap[k]?=w.heap[k]?:=by
 unfold put5
 rw[Below.heap_setCell _ _ _ _ h,Below.heap_setCell _ _ _ _ h,Below.heap_setCell _ _ _ _ h,Below.heap_setCell _ _ _ _ h,Below.heap_setCell _ _ _ _ h]
theorem qbO{w:World}{b o:Nat}{g0 g1 g2 g3 g4:Value}:(put5 w b o g0 g1 g2 g3 g4).heap.size=w.heap.size:=by
 simp[put5]
theorem qaX{B:Nat}{a w:World}{b o:Nat}{g0 g1 g2 g3 g4:Value}(h:Below B a w)(hb:B<=b):Below B a (put5 w b o g0 g1 g2 g3 g4):=
 ((((h.setCell hb g0).setCell hb g1).setCell hb g2).setCell hb g3).setCell hb g4
theorem bcell{W w1:World}(hb:Below W.heap.size W w1):(∀b o,b<W.heap.size->w1.cell? ⟨b,o,none⟩=W.cell? ⟨b,o,none⟩)/\(∀b o,b<W.heap.size->w1.frozen? ⟨b,o,none⟩=W.frozen? ⟨b,o,none⟩):=
 ⟨fun b o h=>hb.cell (p:=⟨b,o,none⟩) h,fun b o h=>hb.frozen (p:=⟨b,o,none⟩) h⟩
def qgP(c:UInt8):Bool:=decide (32<=(c.toNat:Int)/\(c.toNat:Int)<=126/\¬(c.toNat:Int)=34)
def textB(s:ByteArray):Bool:=decide (s.size<=60) && s.data.toList.all qgP
def qaT(c:UInt8):Bool:=decide ((97<=(c.toNat:Int)/\(c.toNat:Int)<=122)∨(48<=(c.toNat:Int)/\(c.toNat:Int)<=57))
def qlK(c:UInt8):Bool:=decide (97<=(c.toNat:Int)/\(c.toNat:Int)<=122)
def nameB(s:ByteArray):Bool:=decide (1<=s.size/\s.size<=8) && qlK (s.data.toList.headD 0) && s.data.toList.all qaT
def ltB(a b:ByteArray):Bool:=Op.bytesLess a.toList b.toList
def qdQ(l:List ByteArray)(i:Nat):Bool:=nameB (l.getD i ByteArray.empty) && (i==0 || ltB (l.getD (i-1) ByteArray.empty) (l.getD i ByteArray.empty))
def qdR(l:List ByteArray)(k:Nat):Bool:=(List.range k).all (qdQ l)
def riseB(l:List ByteArray):Bool:=qdR l l.length
theorem qgE(l:List ByteArray)(k:Nat):qdR l (k+1)=(qdR l k && qdQ l k):=by
 simp[qdR,List.range_succ]
theorem qfM(l:List ByteArray)(k:Nat)(h:k<l.length)(hf:qdQ l k=false):riseB l=false:=by
 unfold riseB qdR
 rw[List.all_eq_false]
 exact⟨k,List.mem_range.2 h,by simp[hf]⟩
theorem qfN{s:ByteArray}{p:UInt8->Bool}(k:Nat)(h:k<s.size)(hf:p s[k]=false):s.data.toList.all p=false:=by
 rw[List.all_eq_false]
 exact⟨s[k],by simp[ByteArray.getElem_eq_getElem_data],by simp[hf]⟩
theorem qdS{s:ByteArray}{p:UInt8->Bool}(k:Nat)(h:k<s.size)(ht:(s.data.toList.take k).all p=true)(hf:p s[k]=true):(s.data.toList.take (k+1)).all p=true:=by
 rw[List.take_succ_eq_append_getElem (by simpa using h)]
 rw[List.all_append,ht]
 simpa [ByteArray.getElem_eq_getElem_data] using hf
theorem qfO{s:ByteArray}{p:UInt8->Bool}(k:Nat)(h:s.size<=k)(ht:(s.data.toList.take k).all p=true):s.data.toList.all p=true:=by
 rw[List.take_of_length_le (by simpa using h)]at ht;exact ht
def qaO(s m:Int)(x:ByteArray)(l:List ByteArray)(kl:Nat):Bool:=
 if s=1 then decide (-999999999<=m/\m<=999999999) && x.toList.isEmpty && ((l.length:Int)==0) && ((kl:Int)==0)
 else if s=2 then (m==0) && textB x && ((l.length:Int)==0) && ((kl:Int)==0)
 else if s=3 then decide (0<=m/\m<=1) && x.toList.isEmpty && ((l.length:Int)==0) && ((kl:Int)==0)
 else if s=4 then (m==0) && x.toList.isEmpty && ((l.length:Int)==0) && decide ((kl:Int)<=20)
 else if s=5 then (m==0) && x.toList.isEmpty && ((l.length:Int)==(kl:Int)) && riseB l
 else if s=6 then (m==0) && x.toList.isEmpty && ((l.length:Int)==0) && decide ((kl:Int)<=1)
 else false
def qiF{α:Type}(t:Nd α):Bool:=qaO t.sort t.num t.text t.names t.kids.length
def goodT:(n:Nat)->T n->Int->Bool
 | 0,_,_=>false
 | n+1,t,d=>decide (d<=6) && qiF (show Nd (T n) from t) && (Nd.kids t).all (fun k=>goodT n k (d+1))
def okT(n:Nat)(t:T n):Bool:=goodT n t 1 && decide (cntT n t<=120)
theorem qvT:∀(n:Nat)(t:T n)(d:Int),goodT n t d=true->1<=cntT n t:=by
 intro n t d h
 cases n with
 | zero=>simp[goodT]at h
 | succ n=>simp only[cntT];omega
def bs(l:List UInt8):ByteArray:=⟨l.toArray⟩
theorem qaS(a b:List UInt8):bs a++bs b=bs (a++b):=by
 apply ByteArray.ext
 simp[bs]
theorem qaL(l:List UInt8):(bs l).size=l.length:=by simp[bs,ByteArray.size]
theorem bs_of(s:ByteArray):bs s.data.toList=s:=by
 apply ByteArray.ext;simp[bs]
theorem qcB(l:List UInt8):(bs l).data.toList=l:=by simp[bs]
def joinL:List (List UInt8)->List UInt8
 | []=>[]
 | [x]=>x
 | x :: y :: r=>x++44 :: joinL (y :: r)
theorem qxK(l:List (List UInt8))(x:List UInt8)(h:l≠[]):joinL (l++[x])=joinL l++44 :: x:=by
 induction l with
 | nil=>exact absurd rfl h
 | cons a r ih=>
  cases r with
  | nil=>simp[joinL]
  | cons b r=>simp only[List.cons_append,joinL]at ih ⊢;rw[ih (by simp)];simp
def zipL:List ByteArray->List (List UInt8)->List (List UInt8)
 | a :: r,x :: s=>(a.data.toList++58 :: x) :: zipL r s
 | _,_=>[]
def lenL(l:List (List UInt8)):Nat:=sumL (fun x=>x.length+10) l
theorem xaG(l:List (List UInt8)):(joinL l).length<=lenL l:=by
 induction l with
 | nil=>simp[joinL]
 | cons a r ih=>
  cases r with
  | nil=>simp[joinL,lenL,sumL]
  | cons b r=>simp only[joinL,lenL,sumL,List.length_append,List.length_cons]at ih ⊢;omega
theorem qvU(a:List ByteArray)(l:List (List UInt8))(h:∀s,s∈a->s.size<=8):(joinL (zipL a l)).length<=lenL l:=by
 have c:∀(a:List ByteArray)(l:List (List UInt8)),(∀s,s∈a->s.size<=8)->(joinL (zipL a l)).length+(if (zipL a l).isEmpty then 0 else 1)<=lenL l:=by
  intro a
  induction a with
  | nil=>intro l _;simp[zipL,joinL]
  | cons s r ih=>
   intro l h
   cases l with
   | nil=>simp[zipL,joinL]
   | cons x t=>
    have d:s.size<=8:=h s (List.mem_cons_self ..)
    have b:s.data.toList.length<=8:=by simpa using d
    have:=ih t (fun u hu=>h u (List.mem_cons_of_mem _ hu))
    simp only[zipL,lenL,sumL]at this ⊢
    cases hz:zipL r t with
    | nil=>simp[joinL];rw[hz]at this;simp[joinL]at this;simp at b;omega
    | cons y z=>
     rw[hz]at this
     simp only[joinL,List.length_append,List.length_cons]at this ⊢
     simp at this ⊢
     simp at b
     omega
 have:=c a l h
 omega
theorem qpC{α:Type}(f g:α->Nat)(l:List α)(h:∀x,x∈l->f x<=g x):sumL f l<=sumL g l:=by
 induction l with
 | nil=>simp[sumL]
 | cons a r ih=>
  have b:=h a (List.mem_cons_self ..)
  have c:=ih (fun x hx=>h x (List.mem_cons_of_mem _ hx))
  simp only[sumL];omega
theorem qvV{α β:Type}(f:β->Nat)(g:α->β)(l:List α):sumL f (l.map g)=sumL (fun x=>f (g x)) l:=by
 induction l with
 | nil=>rfl
 | cons a r ih=>simp only[List.map_cons,sumL,ih]
theorem qkY{α:Type}(c:Nat)(f:α->Nat)(l:List α):sumL (fun x=>c*f x) l=c*sumL f l:=by
 induction l with
 | nil=>simp[sumL]
 | cons a r ih=>simp only[sumL,ih,Nat.mul_add]
theorem qeY(l:List ByteArray)(h:riseB l=true):∀s,s∈l->s.size<=8:=by
 intro s c
 obtain⟨i,a,rfl⟩:=List.getElem_of_mem c
 unfold riseB qdR at h
 have:=List.all_eq_true.1 h i (List.mem_range.2 a)
 simp only[qdQ,Bool.and_eq_true,nameB,decide_eq_true_eq]at this
 have b:=this.1.1.1.2
 simpa [List.getD,a] using b
theorem qdA(l:List (List UInt8))(k:Nat):(joinL (l.take k)).length<=(joinL l).length:=by
 induction l generalizing k with
 | nil=>simp[joinL]
 | cons a r ih=>
  cases k with
  | zero=>simp[joinL]
  | succ k=>
   rw[List.take_succ_cons]
   cases r with
   | nil=>simp[joinL]
   | cons b r=>
    cases k with
    | zero=>simp[joinL]
    | succ k=>
     have:=ih (k+1)
     rw[List.take_succ_cons]at this ⊢
     simp only[joinL,List.length_append,List.length_cons]at this ⊢
     omega
theorem qcC(l:List (List UInt8))(k:Nat)(h:k<l.length):joinL (l.take (k+1))=(if k=0 then [] else joinL (l.take k)++[44])++l[k]:=by
 rw[List.take_succ_eq_append_getElem h]
 by_cases hk:k=0
 ·subst hk;simp[joinL]
 ·rw[if_neg hk,qxK _ _ (by intro e;have:=congrArg List.length e;rw[List.length_take,List.length_nil]at this;omega)];simp
theorem qbN(a:List ByteArray)(l:List (List UInt8))(h:a.length=l.length):(zipL a l).length=l.length:=by
 induction a generalizing l with
 | nil=>cases l with
  | nil=>rfl
  | cons x r=>simp at h
 | cons s r ih=>cases l with
  | nil=>simp at h
  | cons x t=>simp only[zipL,List.length_cons]at h ⊢;rw[ih t (by omega)]
theorem qiG(a:List ByteArray)(l:List (List UInt8))(k:Nat)(h1:k<a.length)(h2:k<l.length)(h3:k<(zipL a l).length):(zipL a l)[k]=a[k].data.toList++58 :: l[k]:=by
 induction a generalizing l k with
 | nil=>simp at h1
 | cons s r ih=>cases l with
  | nil=>simp at h2
  | cons x t=>cases k with
   | zero=>rfl
   | succ k=>
    simp only[zipL,List.getElem_cons_succ]
    exact ih t k (by simpa using h1) (by simpa using h2) (by simpa [zipL] using h3)
theorem qcR{p:UInt8->Bool}(a b:List UInt8)(h:∀c,c∈a->p c=true)(hb:∀c r,b=c :: r->p c=false):(a++b).takeWhile p=a:=by
 induction a with
 | nil=>cases b with
  | nil=>rfl
  | cons c r=>simp[hb c r rfl]
 | cons x r ih=>
  rw[List.cons_append,List.takeWhile_cons,h x (List.mem_cons_self ..)]
  simp only[if_true]
  rw[ih (fun c hc=>h c (List.mem_cons_of_mem _ hc))]
theorem qpD{p:UInt8->Bool}(a b:List UInt8)(h:∀c,c∈a->p c=true)(hb:∀c r,b=c :: r->p c=false):(a++b).dropWhile p=b:=by
 induction a with
 | nil=>cases b with
  | nil=>rfl
  | cons c r=>simp[hb c r rfl]
 | cons x r ih=>
  rw[List.cons_append,List.dropWhile_cons,h x (List.mem_cons_self ..)]
  simp only[if_true]
  exact ih (fun c hc=>h c (List.mem_cons_of_mem _ hc))
def qbQ(c:UInt8)(s:List UInt8):Option (List UInt8×List UInt8):=
 if s.contains c then some (s.takeWhile (· != c),s.dropWhile (· != c)) else none
def eatP(w s:List UInt8):Option (List UInt8):=if w.isPrefixOf s then some (s.drop w.length) else none
theorem qbP{w s r:List UInt8}(h:eatP w s=some r):s=w++r:=by
 unfold eatP at h
 split at h
 ·next hp=>
  cases h
  obtain⟨t,rfl⟩:=List.isPrefixOf_iff_prefix.1 hp
  simp
 ·cases h
theorem qdH(w r:List UInt8):eatP w (w++r)=some r:=by
 unfold eatP
 rw[if_pos (List.isPrefixOf_iff_prefix.2 ⟨r,rfl⟩)]
 simp
theorem qaE(c:UInt8)(r:List UInt8):eatP [c] (c :: r)=some r:=qdH [c] r
theorem qdI(c d:UInt8)(r:List UInt8)(h:d≠c):eatP [c] (d :: r)=none:=by
 unfold eatP
 rw[if_neg]
 simp only[List.isPrefixOf,Bool.and_true,beq_iff_eq]
 exact fun e=>h e.symm
theorem qdJ{c:UInt8}{s w r:List UInt8}(h:qbQ c s=some (w,r)):∃r',r=c :: r' /\ s=w++c :: r' /\ ∀x,x∈w->x≠c:=by
 unfold qbQ at h
 split at h
 ·next hc=>
  cases h
  induction s with
  | nil=>simp at hc
  | cons x s ih=>
   by_cases hx:x=c
   ·subst hx;exact⟨s,by simp⟩
   ·have d:s.contains c=true:=by
     have a:c=x∨c∈s:=by simpa using hc
     rcases a with a|a
     ·exact absurd a.symm hx
     ·simpa using a
    obtain⟨r',a,f,g⟩:=ih d
    have e:(x != c)=true:=by simpa using hx
    refine⟨r',?_,?_,?_⟩
    ·rw[List.dropWhile_cons,e];simpa using a
    ·rw[List.takeWhile_cons,e];simpa using f
    ·intro y b
     rw[List.takeWhile_cons,e]at b
     simp only[if_true]at b
     rcases List.mem_cons.1 b with rfl|b
     ·exact hx
     ·exact g y b
 ·cases h
theorem qcS(c:UInt8)(w r:List UInt8)(h:∀x,x∈w->x≠c):qbQ c (w++c :: r)=some (w,c :: r):=by
 unfold qbQ
 rw[if_pos (by simp)]
 have a:∀x,x∈w->(x != c)=true:=fun x hx=>by simpa using h x hx
 have b:∀x y,(c :: r)=x :: y->(x != c)=false:=by intro x y e;cases e;simp
 rw[qcR w (c :: r) a b,qpD w (c :: r) a b]
def tailL(first:Bool):List (List UInt8)->List UInt8
 | []=>[]
 | x :: r=>(if first=true then x else 44 :: x)++tailL false r
theorem qcK(x:List UInt8)(r:List (List UInt8)):tailL false (x :: r)=44 :: joinL (x :: r):=by
 induction r generalizing x with
 | nil=>simp[tailL,joinL]
 | cons y r ih=>rw[tailL,ih];simp[joinL]
theorem qcT(l:List (List UInt8)):tailL true l=joinL l:=by
 cases l with
 | nil=>rfl
 | cons x r=>
  cases r with
  | nil=>simp[tailL,joinL]
  | cons y r=>rw[tailL,qcK];simp[joinL]
theorem qdZ{s:ByteArray}(h:nameB s=true):∀c,c∈s.data.toList->qaT c=true:=by
 simp only[nameB,Bool.and_eq_true]at h
 exact List.all_eq_true.1 h.2
theorem nm_ne{c:UInt8}(h:qaT c=true):c≠58/\c≠125/\c≠44:=by
 refine⟨?_,?_,?_⟩<;>(rintro rfl;exact absurd h (by decide))
theorem qjR{l:List ByteArray}(h:riseB l=true):∀s,s∈l->nameB s=true:=by
 intro s c
 obtain⟨i,a,rfl⟩:=List.getElem_of_mem c
 unfold riseB qdR at h
 have:=List.all_eq_true.1 h i (List.mem_range.2 a)
 simp only[qdQ,Bool.and_eq_true]at this
 have b:=this.1
 rwa [List.getD_eq_getElem?_getD,List.getElem?_eq_getElem a]at b
theorem qrH(c:UInt8)(l:List UInt8)(k:Nat)(h:∀x,x∈l.take k->x≠c)(he:l.drop k=c :: l.drop (k+1)):qbQ c l=some (l.take k,l.drop k):=by
 have e:l=l.take k++c :: l.drop (k+1):=by rw[<- he];simp
 conv=>lhs;rw[e]
 rw[qcS c _ _ h,he]
theorem qkJ(c:UInt8)(l:List UInt8)(h:∀x,x∈l->x≠c):qbQ c l=none:=by
 unfold qbQ
 rw[if_neg]
 intro a
 have:c∈l:=by simpa using a
 exact h c this rfl
theorem qfT(s:ByteArray)(i k:Nat):(s.extract i (i+k)).toList=(s.data.toList.drop i).take k:=by
 rw[ByteArray.toList_eq]
 have:(s.extract i (i+k)).data.toList=(s.data.toList.drop i).take k:=by
  simp[ByteArray.data_extract,List.extract_eq_take_drop]
 exact this
theorem xfI(s:ByteArray)(i:Nat)(w:ByteArray)(he:(s.extract i (i+w.size)).toList=w.toList):eatP w.data.toList (s.data.toList.drop i)=some (s.data.toList.drop (i+w.size)):=by
 rw[qfT s i w.size,ByteArray.toList_eq]at he
 unfold eatP
 have a:w.data.toList <+: s.data.toList.drop i:=by rw[<- he];exact List.take_prefix _ _
 rw[if_pos (List.isPrefixOf_iff_prefix.2 a),List.drop_drop]
 simp
theorem xaH(s:ByteArray)(i:Nat)(w:ByteArray)(hi:i<=s.size)(h:¬(i+w.size<=s.size/\(s.extract i (i+w.size)).toList=w.toList)):eatP w.data.toList (s.data.toList.drop i)=none:=by
 unfold eatP
 rw[if_neg]
 intro c
 obtain⟨t,a⟩:=List.isPrefixOf_iff_prefix.1 c
 apply h
 have b:=congrArg List.length a
 simp at b
 refine⟨by omega,?_⟩
 rw[qfT s i w.size,<- a,ByteArray.toList_eq]
 have:w.size=w.data.toList.length:=by simp
 rw[this,List.take_left]
theorem qjS(s:ByteArray)(j:Nat)(h:j<s.size):s.data.toList.drop j=s[j] :: s.data.toList.drop (j+1):=by
 rw[List.drop_eq_getElem_cons (by simpa using h)]
 simp[ByteArray.getElem_eq_getElem_data]
theorem xaI(s:ByteArray)(i k:Nat)(c:UInt8)(h:i+k<s.size)(ha:∀x,x∈(s.data.toList.drop i).take k->x≠c)(hc:s[i+k]≠c):∀x,x∈(s.data.toList.drop i).take (k+1)->x≠c:=by
 intro x a
 have b:k<(s.data.toList.drop i).length:=by simp;omega
 rw[List.take_succ_eq_append_getElem b]at a
 rcases List.mem_append.1 a with a|a
 ·exact ha x a
 ·rw[List.mem_singleton]at a
  subst a
  simpa [ByteArray.getElem_eq_getElem_data] using hc
theorem qfX(s:ByteArray)(i k:Nat):s.extract i (i+k)=bs ((s.data.toList.drop i).take k):=by
 have:=qfT s i k
 rw[ByteArray.toList_eq]at this
 rw[<- this,bs_of]
structure Kd(α:Type) where
 sort:Int
 names:List ByteArray
 kids:List α
def K:Nat->Type
 | 0=>Empty
 | n+1=>Kd (K n)
def szK:(n:Nat)->K n->Nat
 | 0,_=>0
 | n+1,t=>szN (Kd.names t)+sumL (fun k=>szK n k+1) (Kd.kids t)
def cntK:(n:Nat)->K n->Nat
 | 0,_=>0
 | n+1,t=>1+sumL (fun k=>cntK n k) (Kd.kids t)
def qbJ(s:Int)(l:List ByteArray)(kl:Nat):Bool:=
 if s=1 then ((l.length:Int)==0) && ((kl:Int)==0)
 else if s=2 then ((l.length:Int)==0) && ((kl:Int)==0)
 else if s=3 then ((l.length:Int)==0) && ((kl:Int)==0)
 else if s=4 then ((l.length:Int)==0) && ((kl:Int)==1)
 else if s=5 then ((l.length:Int)==(kl:Int)) && riseB l
 else if s=6 then ((l.length:Int)==0) && ((kl:Int)==1)
 else false
def qrI{α:Type}(t:Kd α):Bool:=qbJ t.sort t.names t.kids.length
def goodK:(n:Nat)->K n->Int->Bool
 | 0,_,_=>false
 | n+1,t,d=>decide (d<=6) && qrI (show Kd (K n) from t) && (Kd.kids t).all (fun k=>goodK n k (d+1))
def okK(n:Nat)(t:K n):Bool:=goodK n t 1 && decide (cntK n t<=40)
theorem qvW:∀(n:Nat)(t:K n)(d:Int),goodK n t d=true->1<=cntK n t:=by
 intro n t d h
 cases n with
 | zero=>simp[goodK]at h
 | succ n=>simp only[cntK];omega
def qbD(n:Nat)(t:K n)(d:Int):Int:=if goodK n t d=true/\cntK n t<=40 then (cntK n t:Int) else -1
theorem qrJ(n:Nat)(t:K (n+1))(d:Int)(h:(decide (d<=6) && qrI (show Kd (K n) from t))=false):qbD (n+1) t d = -1:=by
 unfold qbD;rw[if_neg];rintro ⟨a,-⟩;simp only[goodK,h,Bool.false_and]at a;cases a
theorem qjT(n:Nat)(t:K (n+1))(d:Int)(k:Nat)(hk:k<(Kd.kids t).length)(h:qbD n (Kd.kids t)[k] (d+1)<0):qbD (n+1) t d = -1:=by
 unfold qbD;rw[if_neg]
 rintro ⟨a,c⟩
 simp only[goodK,Bool.and_eq_true,List.all_eq_true]at a
 have b:=a.2 _ (List.getElem_mem hk)
 have e:=qcA (fun k=>cntK n k) (Kd.kids t) _ (List.getElem_mem hk)
 simp only[cntK]at c
 unfold qbD at h
 rw[if_pos ⟨b,by omega⟩]at h
 omega
theorem qhS(n:Nat)(t:K (n+1))(d:Int)(k:Nat)(h:40<1+sumL (fun k=>cntK n k) ((Kd.kids t).take k)):qbD (n+1) t d = -1:=by
 unfold qbD;rw[if_neg]
 rintro ⟨-,a⟩
 have:=qcP (fun k=>cntK n k) ((Kd.kids t).take k) ((Kd.kids t).drop k)
 rw[List.take_append_drop]at this
 simp only[cntK]at a
 omega
theorem qhD (n:Nat) (t:K (n+1)) (d:Int) (h:(decide (d<=6) && qrI (show Kd (K n) from t))=true) (hall:(Kd.kids t).all (fun k=>goodK n k (d+1))=true) (hs:1+sumL (fun k=>cntK n k) (Kd.kids t)<=40) :
  qbD (n+1) t d=1+(sumL (fun k=>cntK n k) (Kd.kids t):Int):=by
 unfold qbD;rw[if_pos]
 ·simp only[cntK];omega
 ·exact⟨by simp only[goodK,h,hall,Bool.and_self],by simp only[cntK];omega⟩
theorem qeT(n:Nat)(t:K n)(d:Int)(h:0<=qbD n t d):qbD n t d=cntK n t/\goodK n t d=true/\cntK n t<=40:=by
 unfold qbD at h ⊢
 by_cases hc:goodK n t d=true/\cntK n t<=40
 ·rw[if_pos hc];exact⟨rfl,hc⟩
 ·rw[if_neg hc]at h;omega
theorem qlL(n:Nat)(t:K n)(d:Int): -1<=qbD n t d/\qbD n t d<=40:=by
 unfold qbD;split<;>omega
theorem okK_eq(n:Nat)(t:K n):decide (0<qbD n t 1)=okK n t:=by
 unfold qbD okK
 by_cases hc:goodK n t 1=true/\cntK n t<=40
 ·rw[if_pos hc,hc.1]
  have:=qvW n t 1 hc.1
  simp[hc.2];omega
 ·rw[if_neg hc]
  cases hg:goodK n t 1 with
  | false=>simp
  | true=>simp[hg]at hc;simp;omega
theorem qeP{α:Type}{p:α->Bool}{l:List α}(k:Nat)(h:k<l.length)(ht:(l.take k).all p=true)(hf:p l[k]=true):(l.take (k+1)).all p=true:=by
 rw[List.take_succ_eq_append_getElem h,List.all_append,ht];simpa using hf
def headL{α:Type}(f:α->List UInt8):List α->List UInt8
 | []=>[]
 | k :: _=>f k
def txtK:(n:Nat)->K n->List UInt8
 | 0,_=>[]
 | n+1,t=>
  if Kd.sort t=1 then [110,117,109]
  else if Kd.sort t=2 then [116,101,120,116]
  else if Kd.sort t=3 then [102,108,97,103]
  else if Kd.sort t=4 then 91 :: headL (txtK n) (Kd.kids t)++[93]
  else if Kd.sort t=6 then 63 :: headL (txtK n) (Kd.kids t)
  else 123 :: joinL (zipL (Kd.names t) ((Kd.kids t).map (txtK n)))++[125]
theorem qpE:∀(n:Nat)(t:K n)(d:Int),goodK n t d=true->(txtK n t).length+10<=24*cntK n t:=by
 intro n
 induction n with
 | zero=>intro t d h;simp[goodK]at h
 | succ n ih=>
  intro t d h
  simp only[goodK,Bool.and_eq_true]at h
  have a:qbJ (Kd.sort t) (Kd.names t) (Kd.kids t).length=true:=h.1.2
  have f:=List.all_eq_true.1 h.2
  have b:lenL ((Kd.kids t).map (txtK n))<=24*sumL (fun x=>cntK n x) (Kd.kids t):=by
   unfold lenL
   rw[qvV,<- qkY]
   exact qpC _ _ _ fun x hx=>ih x (d+1) (f x hx)
  have g:cntK (n+1) t=1+sumL (fun x=>cntK n x) (Kd.kids t):=rfl
  rw[g]
  have c:(headL (txtK n) (Kd.kids t)).length<=24*sumL (fun x=>cntK n x) (Kd.kids t):=by
   cases hkk:Kd.kids t with
   | nil=>simp[headL]
   | cons k r=>
    have e:=ih k (d+1) (f k (by rw[hkk];exact List.mem_cons_self ..))
    simp only[headL,sumL]
    omega
  unfold qbJ at a
  simp only[txtK]
  by_cases e:Kd.sort t=1
  ·rw[if_pos e];simp;omega
  rw[if_neg e]at a ⊢
  by_cases h2:Kd.sort t=2
  ·rw[if_pos h2];simp;omega
  rw[if_neg h2]at a ⊢
  by_cases h3:Kd.sort t=3
  ·rw[if_pos h3];simp;omega
  rw[if_neg h3]at a ⊢
  by_cases h4:Kd.sort t=4
  ·rw[if_pos h4];simp only[List.length_append,List.length_cons,List.length_nil];omega
  rw[if_neg h4]at a ⊢
  by_cases h6:Kd.sort t=6
  ·rw[if_pos h6];simp only[List.length_cons];omega
  rw[if_neg h6]
  by_cases h5:Kd.sort t=5
  ·rw[if_pos h5]at a
   simp only[Bool.and_eq_true]at a
   have:=qvU (Kd.names t) ((Kd.kids t).map (txtK n)) (qeY _ a.2)
   simp only[List.length_append,List.length_cons,List.length_nil]
   omega
  ·rw[if_neg h5,if_neg h6]at a;cases a
theorem qpF{n:Nat}{t:K n}(h:okK n t=true):goodK n t 1=true/\cntK n t<=40:=by
 simpa only[okK,Bool.and_eq_true,decide_eq_true_eq] using h
theorem qpG{a b:ByteArray}(h:a=b):Ending.returned (.string a)=.returned (.string b):=by rw[h]
def qeM(parts:List (List UInt8))(k:Nat):ByteArray:=bs (joinL (parts.take k))
theorem qtZ(parts:List (List UInt8))(k:Nat)(h:k<parts.length)(hk:¬k=0):qeM parts (k+1)=qeM parts k++bs [44]++bs parts[k]:=by
 unfold qeM;rw[qcC _ _ h,if_neg hk,qaS,qaS]
theorem qrK(parts:List (List UInt8))(h:0<parts.length):qeM parts (0+1)=bs []++bs parts[0]:=by
 unfold qeM;rw[qcC _ _ h,if_pos rfl,qaS]
def formQ{α:Type}(f:List UInt8->Option (α×List UInt8)):Nat->List ByteArray->List α->List UInt8->Option (List ByteArray×List α×List UInt8)
 | 0,_,_,_=>none
 | k+1,ns,acc,s=>
  match eatP [125] s with
  | some r=>some (ns,acc,r)
  | none=>
   match (if ns.length=0 then some s else eatP [44] s) with
   | none=>none
   | some s1=>
    match qbQ 58 s1 with
    | none=>none
    | some (w,s2)=>
     match f (s2.drop 1) with
     | none=>none
     | some (t,r)=>formQ f k (ns++[bs w]) (acc++[t]) r
def oneQ{α:Type}(f:List UInt8->Option (α×List UInt8))(close:List UInt8)(s:List UInt8):Option (α×List UInt8):=
 match f s with
 | none=>none
 | some (k,r)=>
  match eatP close r with
  | none=>none
  | some r'=>some (k,r')
def qaM:(n:Nat)->List UInt8->Option (K n×List UInt8)
 | 0,_=>none
 | n+1,s=>
  match eatP [110,117,109] s with
  | some r=>some ((⟨1,[],[]⟩:Kd (K n)),r)
  | none=>
  match eatP [116,101,120,116] s with
  | some r=>some ((⟨2,[],[]⟩:Kd (K n)),r)
  | none=>
  match eatP [102,108,97,103] s with
  | some r=>some ((⟨3,[],[]⟩:Kd (K n)),r)
  | none=>
  match eatP [91] s with
  | some r=>
   match oneQ (qaM n) [93] r with
   | none=>none
   | some (k,r')=>some ((⟨4,[],[k]⟩:Kd (K n)),r')
  | none=>
  match eatP [63] s with
  | some r=>
   match oneQ (qaM n) [] r with
   | none=>none
   | some (k,r')=>some ((⟨6,[],[k]⟩:Kd (K n)),r')
  | none=>
  match eatP [123] s with
  | some r=>
   match formQ (qaM n) (r.length+1) [] [] r with
   | none=>none
   | some (ns,ks,r')=>some ((⟨5,ns,ks⟩:Kd (K n)),r')
  | none=>none
theorem qeJ(c:UInt8)(w:List UInt8)(d:UInt8)(r:List UInt8)(h:d≠c):eatP (c :: w) (d :: r)=none:=by
 unfold eatP
 rw[if_neg]
 simp only[List.isPrefixOf,Bool.and_eq_true,beq_iff_eq,not_and]
 exact fun e=>absurd e.symm h
theorem xfJ(s:List UInt8):eatP [] s=some s:=by simp[eatP]
theorem qlM {α:Type} (f:List UInt8->Option (α × List UInt8)) (txt:α->List UInt8) (hf:∀ s t r,f s=some (t,r)->s=txt t++r)
  (fuel:Nat) (ns:List ByteArray) (acc:List α) (s:List UInt8) (nl:List ByteArray) (l:List α) (r:List UInt8) (h:formQ f fuel ns acc s=some (nl,l,r)) :
  ∃ms ks,nl=ns++ms/\l=acc++ks/\ms.length=ks.length/\s=tailL (decide (ns.length=0)) (zipL ms (ks.map txt))++125 :: r:=by
 induction fuel generalizing ns acc s with
 | zero=>simp[formQ]at h
 | succ k ih=>
  rw[formQ]at h
  cases h1:eatP [125] s with
  | some r1=>
   rw[h1]at h
   simp only[Option.some.injEq,Prod.mk.injEq]at h
   obtain⟨rfl,rfl,rfl⟩:=h
   exact⟨[],[],by simp,by simp,rfl,by simpa [tailL,zipL] using qbP h1⟩
  | none=>
   rw[h1]at h
   simp only at h
   cases h2:(if ns.length=0 then some s else eatP [44] s) with
   | none=>rw[h2]at h;cases h
   | some s1=>
    rw[h2]at h
    simp only at h
    cases hu:qbQ 58 s1 with
    | none=>rw[hu]at h;cases h
    | some x=>
    obtain⟨w,n⟩:=x
    rw[hu]at h
    simp only at h
    obtain⟨e,g,d,o⟩:=qdJ hu
    subst g
    simp only[List.drop_succ_cons,List.drop_zero]at h
    cases h3:f e with
    | none=>rw[h3]at h;cases h
    | some x=>
     obtain⟨t,p⟩:=x
     rw[h3]at h
     simp only at h
     have c:=hf _ _ _ h3
     obtain⟨ms,ks,i,j,m,b⟩:=ih _ _ _ h
     have a:decide ((ns++[bs w]).length=0)=false:=by simp
     rw[a]at b
     refine⟨bs w :: ms,t :: ks,by simpa using i,by simpa using j,by simp[m],?_⟩
     simp only[List.map_cons,zipL,tailL,List.append_assoc,qcB]
     by_cases h0:ns.length=0
     ·rw[if_pos h0]at h2;cases h2
      simp only[h0,decide_true,if_true,List.append_assoc,List.cons_append]
      rw[<- b,<- c];exact d
     ·rw[if_neg h0]at h2
      simp only[h0,decide_false,Bool.false_eq_true,if_false,List.cons_append,List.append_assoc]
      rw[<- b,<- c,<- d];exact qbP h2
theorem qrL{α:Type}{f:List UInt8->Option (α×List UInt8)}{c s:List UInt8}{k:α}{r:List UInt8}(h:oneQ f c s=some (k,r)):∃r1,f s=some (k,r1)/\r1=c++r:=by
 unfold oneQ at h
 cases h1:f s with
 | none=>rw[h1]at h;cases h
 | some x=>
  obtain⟨t,r1⟩:=x
  rw[h1]at h
  simp only at h
  cases h2:eatP c r1 with
  | none=>rw[h2]at h;cases h
  | some r2=>rw[h2]at h;cases h;exact⟨r1,rfl,qbP h2⟩
theorem qrM:∀(n:Nat)(s:List UInt8)(k:K n)(r:List UInt8),qaM n s=some (k,r)->s=txtK n k++r:=by
 intro n
 induction n with
 | zero=>intro s k r h;simp[qaM]at h
 | succ n ih=>
  intro s k r h
  rw[qaM]at h
  split at h
  ·next r1 h1=>cases h;simpa [txtK] using qbP h1
  split at h
  ·next r1 h1=>cases h;simpa [txtK] using qbP h1
  split at h
  ·next r1 h1=>cases h;simpa [txtK] using qbP h1
  split at h
  ·next r1 h1=>
   cases h2:oneQ (qaM n) [93] r1 with
   | none=>rw[h2]at h;cases h
   | some x=>
    obtain⟨a,c⟩:=x
    rw[h2]at h;cases h
    obtain⟨g,b,e⟩:=qrL h2
    have:=ih _ _ _ b
    rw[qbP h1,this,e];simp[txtK,headL]
  split at h
  ·next r1 h1=>
   cases h2:oneQ (qaM n) [] r1 with
   | none=>rw[h2]at h;cases h
   | some x=>
    obtain⟨a,c⟩:=x
    rw[h2]at h;cases h
    obtain⟨g,b,e⟩:=qrL h2
    have:=ih _ _ _ b
    rw[qbP h1,this,e];simp[txtK,headL]
  split at h
  ·next r1 h1=>
   cases h2:formQ (qaM n) (r1.length+1) [] [] r1 with
   | none=>rw[h2]at h;cases h
   | some x=>
    obtain⟨j,l,c⟩:=x
    rw[h2]at h;cases h
    obtain⟨m,i,d,a,o,f⟩:=qlM _ (txtK n) (fun s t r h=>ih s t r h) _ _ _ _ _ _ _ h2
    simp only[List.nil_append]at d a
    subst d a
    simp only[List.length_nil,decide_true,qcT]at f
    rw[qbP h1,f];simp[txtK]
  ·cases h
theorem qnH {α:Type} (f:List UInt8->Option (α × List UInt8)) (txt:α->List UInt8) (ks:List α) (hf:∀ k,k∈ks->∀ post,f (txt k++post)=some (k,post))
  (ms:List ByteArray) (hms:∀s,s∈ms->nameB s=true) (hlen:ms.length=ks.length) (fuel:Nat) (ns:List ByteArray) (acc:List α) (post:List UInt8) (hfu:ks.length<fuel) :
  formQ f fuel ns acc (tailL (decide (ns.length=0)) (zipL ms (ks.map txt))++125 :: post)=some (ns++ms,acc++ks,post):=by
 induction ks generalizing fuel ns acc ms with
 | nil=>
  have:ms=[]:=List.eq_nil_of_length_eq_zero (by simpa using hlen)
  subst this
  cases fuel with
  | zero=>simp at hfu
  | succ k=>simp[formQ,tailL,zipL,qaE]
 | cons x ks ih=>
  cases ms with
  | nil=>simp at hlen
  | cons m ms=>
  cases fuel with
  | zero=>omega
  | succ k=>
   have h:=hms m (List.mem_cons_self ..)
   have a:=qdZ h
   have l:1<=m.size:=by simp only[nameB,Bool.and_eq_true,decide_eq_true_eq]at h;exact h.1.1.1
   have step:=hf x (List.mem_cons_self ..) (tailL false (zipL ms (ks.map txt))++125 :: post)
   have rest:=ih (fun k hk=>hf k (List.mem_cons_of_mem _ hk)) ms (fun s hs=>hms s (List.mem_cons_of_mem _ hs)) (by simpa using hlen) k (ns++[m]) (acc++[x]) (by simp at hfu;omega)
   have b:decide ((ns++[m]).length=0)=false:=by simp
   rw[b]at rest
   have d:=qcS 58 m.data.toList (txt x++(tailL false (zipL ms (ks.map txt))++125 :: post)) (fun c hc=>(nm_ne (a c hc)).1)
   have g:∃c r,m.data.toList=c :: r:=by
    cases hd:m.data.toList with
    | nil=>
     have n:m.data.toList.length=0:=by rw[hd];rfl
     have o:m.data.toList.length=m.size:=by simp
     omega
    | cons c r=>exact⟨c,r,rfl⟩
   obtain⟨c,r,e⟩:=g
   have i:=nm_ne (a c (by rw[e];exact List.mem_cons_self ..))
   simp only[List.map_cons,zipL,tailL,List.append_assoc]
   by_cases h0:ns.length=0
   ·simp only[h0,decide_true,if_true,List.append_assoc,List.cons_append]
    rw[formQ]
    have j:eatP [125] (m.data.toList++58 :: (txt x++(tailL false (zipL ms (ks.map txt))++125 :: post)))=none:=by rw[e,List.cons_append];exact qdI _ _ _ i.2.1
    rw[j]
    simp only[h0,if_true]
    rw[d]
    simp only[List.drop_succ_cons,List.drop_zero]
    rw[step]
    simp only[bs_of]
    rw[rest]
    simp
   ·simp only[h0,decide_false,if_false,Bool.false_eq_true,List.append_assoc,List.cons_append]
    rw[formQ,qdI _ _ _ (by decide)]
    simp only[h0,if_false,qaE]
    rw[d]
    simp only[List.drop_succ_cons,List.drop_zero]
    rw[step]
    simp only[bs_of]
    rw[rest]
    simp
theorem qhT(l:List (List UInt8))(h:∀x,x∈l->x≠[]):∀b,l.length<=(tailL b l).length:=by
 induction l with
 | nil=>intro b;simp
 | cons x r ih=>
  intro b
  have a:=ih (fun y hy=>h y (List.mem_cons_of_mem _ hy)) false
  have d:1<=x.length:=by
   cases x with
   | nil=>exact absurd rfl (h [] (List.mem_cons_self ..))
   | cons c y=>simp
  simp only[tailL,List.length_append,List.length_cons]
  split
  ·omega
  ·simp only[List.length_cons];omega
theorem xaJ(a:List ByteArray)(l:List (List UInt8)):∀x,x∈zipL a l->x≠[]:=by
 induction a generalizing l with
 | nil=>intro x b;simp[zipL]at b
 | cons s r ih=>
  intro x b
  cases l with
  | nil=>simp[zipL]at b
  | cons y t=>
   simp only[zipL]at b
   rcases List.mem_cons.1 b with rfl|b
   ·simp
   ·exact ih t x b
theorem qlN:∀(n:Nat)(k:K n)(d:Int)(post:List UInt8),goodK n k d=true->qaM n (txtK n k++post)=some (k,post):=by
 intro n
 induction n with
 | zero=>intro k d post h;simp[goodK]at h
 | succ n ih=>
  intro k d post h
  simp only[goodK,Bool.and_eq_true]at h
  have a:qbJ (Kd.sort k) (Kd.names k) (Kd.kids k).length=true:=h.1.2
  have l:=List.all_eq_true.1 h.2
  obtain⟨j,na,c⟩:Kd (K n):=k
  simp only at a l
  unfold qbJ at a
  have one:∀(b:List UInt8),(c.length:Int)=1->∃x,c=[x]/\∀post,oneQ (qaM n) b (txtK n x++(b++post))=some (x,post):=by
   intro b o
   match c,o,l with
   | [x],_,l=>
    refine⟨x,rfl,fun post=>?_⟩
    unfold oneQ
    rw[ih x (d+1) (b++post) (l x (List.mem_cons_self ..))]
    simp only[qdH]
  by_cases m:j=1
  ·rw[if_pos m]at a
   simp only[Bool.and_eq_true,beq_iff_eq]at a
   have g:na=[]:=List.eq_nil_of_length_eq_zero (by have:=a.1;omega)
   have i:c=[]:=List.eq_nil_of_length_eq_zero (by have:=a.2;omega)
   subst g i m
   have e:txtK (n+1) (⟨1,[],[]⟩:Kd (K n))=[110,117,109]:=by simp[txtK]
   rw[e,qaM,qdH]
  rw[if_neg m]at a
  by_cases h2:j=2
  ·rw[if_pos h2]at a
   simp only[Bool.and_eq_true,beq_iff_eq]at a
   have g:na=[]:=List.eq_nil_of_length_eq_zero (by have:=a.1;omega)
   have i:c=[]:=List.eq_nil_of_length_eq_zero (by have:=a.2;omega)
   subst g i h2
   have e:txtK (n+1) (⟨2,[],[]⟩:Kd (K n))=[116,101,120,116]:=by simp[txtK]
   rw[e,qaM,qdH]
   simp[eatP,List.isPrefixOf]
  rw[if_neg h2]at a
  by_cases h3:j=3
  ·rw[if_pos h3]at a
   simp only[Bool.and_eq_true,beq_iff_eq]at a
   have g:na=[]:=List.eq_nil_of_length_eq_zero (by have:=a.1;omega)
   have i:c=[]:=List.eq_nil_of_length_eq_zero (by have:=a.2;omega)
   subst g i h3
   have e:txtK (n+1) (⟨3,[],[]⟩:Kd (K n))=[102,108,97,103]:=by simp[txtK]
   rw[e,qaM,qdH]
   simp[eatP,List.isPrefixOf]
  rw[if_neg h3]at a
  by_cases h4:j=4
  ·rw[if_pos h4]at a
   simp only[Bool.and_eq_true,beq_iff_eq]at a
   have g:na=[]:=List.eq_nil_of_length_eq_zero (by have:=a.1;omega)
   obtain⟨x,i,q⟩:=one [93] a.2
   subst g i h4
   have e:txtK (n+1) (⟨4,[],[x]⟩:Kd (K n))++post=91 :: (txtK n x++([93]++post)):=by simp[txtK,headL]
   rw[e,qaM,qeJ 110 _ 91 _ (by decide),qeJ 116 _ 91 _ (by decide),qeJ 102 _ 91 _ (by decide),qaE]
   simp only[q]
  rw[if_neg h4]at a
  by_cases h5:j=5
  ·rw[if_pos h5]at a
   simp only[Bool.and_eq_true,beq_iff_eq]at a
   have o:na.length=c.length:=by have:=a.1;omega
   subst h5
   have e:txtK (n+1) (⟨5,na,c⟩:Kd (K n))++post=123 :: (tailL true (zipL na (c.map (txtK n)))++125 :: post):=by simp[txtK,qcT]
   have p:c.length<(tailL true (zipL na (c.map (txtK n)))++125 :: post).length+1:=by
    have m:=qhT (zipL na (c.map (txtK n))) (xaJ _ _) true
    rw[qbN _ _ (by simpa using o),List.length_map]at m
    simp only[List.length_append,List.length_cons];omega
   have f:=qnH (qaM n) (txtK n) c (fun k hk' post=>ih k (d+1) post (l k hk')) na (qjR a.2) o _ [] [] post p
   simp only[List.length_nil,decide_true,List.nil_append]at f
   rw[e,qaM,qeJ 110 _ 123 _ (by decide),qeJ 116 _ 123 _ (by decide),qeJ 102 _ 123 _ (by decide),qeJ 91 _ 123 _ (by decide),qeJ 63 _ 123 _ (by decide),qaE]
   simp only[f]
  rw[if_neg h5]at a
  by_cases h6:j=6
  ·rw[if_pos h6]at a
   simp only[Bool.and_eq_true,beq_iff_eq]at a
   have g:na=[]:=List.eq_nil_of_length_eq_zero (by have:=a.1;omega)
   obtain⟨x,i,q⟩:=one [] a.2
   subst g i h6
   have e:txtK (n+1) (⟨6,[],[x]⟩:Kd (K n))++post=63 :: (txtK n x++([]++post)):=by simp[txtK,headL]
   rw[e,qaM,qeJ 110 _ 63 _ (by decide),qeJ 116 _ 63 _ (by decide),qeJ 102 _ 63 _ (by decide),qeJ 91 _ 63 _ (by decide),qaE]
   simp only[q]
  ·rw[if_neg h6]at a;cases a
def readK(n:Nat)(s:ByteArray):Option (K n):=
 if s.size<=800 then
  match qaM n s.data.toList with
  | some (k,[])=>if okK n k=true then some k else none
  | _=>none
 else none
theorem qhE{n:Nat}{s:ByteArray}{k:K n}(h:readK n s=some k):s.size<=800/\okK n k=true/\txtK n k=s.data.toList:=by
 unfold readK at h
 split at h
 ·next h8=>
  split at h
  ·next k' hp=>
   split at h
   ·next hok=>
    cases h
    exact⟨h8,hok,by have:=qrM n _ _ _ hp;simpa using this.symm⟩
   ·cases h
  ·cases h
 ·cases h
theorem xfK{n:Nat}{s:ByteArray}{k:K n}(h8:s.size<=800)(hok:okK n k=true)(ht:txtK n k=s.data.toList):readK n s=some k:=by
 unfold readK
 rw[if_pos h8,<- ht]
 have:=qlN n k 1 [] (qpF hok).1
 rw[List.append_nil]at this
 rw[this]
 simp only[hok,if_true]
structure Near(bb:Nat)(w w':World):Prop where
 os:w'.os=w.os
 tape:w'.tape=w.tape
 output:w'.output=w.output
 size:w.heap.size<=w'.heap.size
 block:∀k,k<w.heap.size->k≠bb->w'.heap[k]?=w.heap[k]?
theorem Near.refl(bb:Nat)(w:World):Near bb w w:=⟨rfl,rfl,rfl,Nat.le_refl _,fun _ _ _=>rfl⟩
theorem Near.trans{bb:Nat}{a b c:World}(h:Near bb a b)(k:Near bb b c):Near bb a c:=
 ⟨k.os.trans h.os,k.tape.trans h.tape,k.output.trans h.output,Nat.le_trans h.size k.size,fun i hi hne=>(k.block i (Nat.lt_of_lt_of_le hi h.size) hne).trans (h.block i hi hne)⟩
theorem Near.of_below{bb:Nat}{a b:World}(h:Below a.heap.size a b):Near bb a b:=⟨h.os,h.tape,h.output,h.size,fun k hk _=>h.block k hk⟩
theorem Near.set(bb o:Nat)(w:World)(v:Value):Near bb w (w.setCell ⟨bb,o,none⟩ v):=⟨rfl,rfl,rfl,by simp,fun k _ hne=>Below.heap_setCell _ _ _ _ hne⟩
theorem Near.alloc(bb:Nat)(w:World)(o:Obj):Near bb w (w.alloc o):=.of_below ((Below.refl _ _).alloc (Nat.le_refl _) o)
theorem Near.below{bb B:Nat}{a b:World}(h:Near bb a b)(h1:B<=bb)(h2:B<=a.heap.size):Below B a b:=⟨h.os,h.tape,h.output,h.size,fun k hk=>h.block k (by omega) (by omega)⟩
def Prt(w:World)(pb:Nat)(p:Int):Prop:=w.heap[pb]?=some (.cells #[.int .i64 p] 3 (0,0))
theorem Prt.cell{w:World}{pb:Nat}{p:Int}(h:Prt w pb p):w.cell? ⟨pb,0,none⟩=some (.int .i64 p):=by
 unfold Prt at h;simp[World.cell?,h]
theorem Prt.free{w:World}{pb:Nat}{p:Int}(h:Prt w pb p):w.frozen? ⟨pb,0,none⟩=false:=by
 unfold Prt at h;simp[World.frozen?,h]
theorem Prt.lt{w:World}{pb:Nat}{p:Int}(h:Prt w pb p):pb<w.heap.size:=by
 unfold Prt at h
 exact (Array.getElem?_eq_some_iff.1 h).1
theorem Prt.set{w:World}{pb:Nat}{p:Int}(h:Prt w pb p)(q:Int):Prt (w.setCell ⟨pb,0,none⟩ (.int .i64 q)) pb q:=by
 unfold Prt at h ⊢;simp[World.setCell,Array.getElem?_modify,h]
theorem Prt.new(w:World)(p:Int):Prt (w.alloc (.cells #[.int .i64 p] 3)) w.heap.size p:=by
 show (w.heap.push _)[w.heap.size]?=_;simp
theorem Prt.keep{w w':World}{pb:Nat}{p:Int}(h:Prt w pb p)(hb:Below w.heap.size w w'):Prt w' pb p:=(hb.block pb h.lt).trans h
theorem Near.same{pb:Nat}{S:Nat->Prop}{w w':World}(h:Near pb w w')(hS:∀b,S b->b<w.heap.size/\b≠pb):Same S w w':=fun b hb=>h.block b (hS b hb).1 (hS b hb).2
theorem Near.cell{pb b o:Nat}{w w':World}{v:Value}(h:Near pb w w')(hc:w.cell? ⟨b,o,none⟩=some v)(hne:b≠pb):w'.cell? ⟨b,o,none⟩=some v:=by
 have c:b<w.heap.size:=Classical.byContradiction fun hge=>by
  have:w.heap[b]?=none:=Array.getElem?_eq_none (by omega)
  simp[World.cell?,this]at hc
 exact (World.cell?_of_block (w:=w) (w':=w') (a:=⟨b,o,none⟩) (h.block b c hne)).trans hc
theorem qlA{w:World}{b o:Nat}{v:Value}(h:w.cell? ⟨b,o,none⟩=some v):b<w.heap.size:=
 Classical.byContradiction fun hge=>by
  have:w.heap[b]?=none:=Array.getElem?_eq_none (by omega)
  simp[World.cell?,this]at h
structure Cap(w:World)(pb mb ab:Nat)(p M:Int)(F:Nat):Prop where
 parts:Prt w pb p
 max:w.cell? ⟨mb,0,none⟩=some (.int .i64 M)
 acc:w.cell? ⟨ab,0,none⟩=some (.func (.func F) #[] #[])
 nm:mb≠pb
 na:ab≠pb
theorem Cap.keep{w w':World}{pb mb ab:Nat}{p q M:Int}{F:Nat}(h:Cap w pb mb ab p M F)(hn:Near pb w w')(hp:Prt w' pb q):Cap w' pb mb ab q M F:=
 ⟨hp,hn.cell h.max h.nm,hn.cell h.acc h.na,h.nm,h.na⟩
theorem qaN{k:IntKind}{a b:Int}(h:a=b):Ending.returned (.int k a)=.returned (.int k b):=by rw[h]
theorem qdU{a b:ByteArray}(h:a=b):Ending.returned (.string a)=.returned (.string b):=by rw[h]
set_option maxRecDepth 100000
set_option maxHeartbeats 16000000
theorem qaD{a b:Bool}(h:a=b):Ending.returned (.bool a)=.returned (.bool b):=by rw[h]
def digB(n:Int):Bool:=decide (48<=n/\n<=57)
theorem qdL(x:Int)(w:World)(_h0:0<=x)(_h1:x<=255):Calls prog 139 #[.int .u8 x] w fun e w'=>e=.returned (.bool (digB x))/\w'=w:=by
 by_cases h:48<=x<;>by_cases h2:x<=57
 all_goals
  go_enter func139,ntmps139
  go_wp2
  go_ret
  exact⟨qaD (by simp[digB,h,h2];try omega),rfl⟩
theorem xiL(s:ByteArray)(h:0<s.size):s.data.toList.headD 0=s[0]:=by
 cases hx:s.data.toList with
 | nil=>have:=congrArg List.length hx;simp at this;simp[this]at h
 | cons a r=>simp[ByteArray.getElem_eq_getElem_data,<- Array.getElem_toList,hx]
theorem qxS(c:UInt8)(h:qaT c=true):qlK c = !digB c.toNat:=by
 unfold qaT at h
 rw[decide_eq_true_eq]at h
 unfold qlK digB
 rcases h with h|h
 ·rw[decide_eq_true h,decide_eq_false (by omega)];rfl
 ·rw[decide_eq_false (by omega),decide_eq_true h];rfl
theorem xfX(s:ByteArray)(h1:1<=s.size)(h2:s.size<=8):nameB s=(!digB (s[0].toNat:Int) && s.data.toList.all qaT):=by
 unfold nameB
 rw[xiL s (by omega)]
 cases hall:s.data.toList.all qaT with
 | false=>simp
 | true=>
  have a:qaT s[0]=true:=List.all_eq_true.1 hall _ (by simp[ByteArray.getElem_eq_getElem_data])
  rw[qxS _ a];simp[h1,h2]
theorem qgA(s:ByteArray)(w:World)(hs:s.size<=maxLen):Calls prog 106 #[.string s] w fun e w'=>e=.returned (.bool (nameB s))/\w'=w:=by
 unfold maxLen at hs
 by_cases hl:1<=s.size/\s.size<=8
 ·obtain⟨n,o⟩:=hl
  have p:Hid (nameB s=(!digB (s[0].toNat:Int) && s.data.toList.all qaT)):=xfX s n o
  have c:∀k (h:k<s.size),(s[k].toNat:Int)<=255:=fun k h=>by have:=s[k].toNat_lt;omega
  have d:=c 0 (by omega)
  cases hd:digB (s[0].toNat:Int) with
  | true=>
   have g:Hid (nameB s=false):=by show _=_;rw[p.out,hd];simp
   clear c
   go_enter func106,ntmps106
   go_wp2_with fail
   refine (qdL _ _ (by omega) d).mono ?_
   rintro e w' ⟨rfl,rfl⟩
   rw[hd]
   go_wp2_with fail
   go_ret
   exact⟨qaD g.out.symm,rfl⟩
  | false=>
   have q:=hidF hd
   have t:=hidF c
   clear c hd
   go_enter func106,ntmps106
   go_wp2_with fail
   refine (qdL _ _ (by omega) d).mono ?_
   rintro e w' ⟨rfl,rfl⟩
   rw[q.out]
   go_wp2_with fail
   go_loop [19] (fun i=>∃k:Nat,k<=s.size/\i=.int .i64 k/\(s.data.toList.take k).all qaT=true) (fun i=>s.size-(intOf i).toNat)
   case atStart=>exact⟨0,Nat.zero_le _,rfl,by simp⟩
   case round=>
    obtain⟨k,v,rfl,f⟩:=hrel
    have m:=hidF f
    clear f
    by_cases hlt:k<s.size
    ·have j:=t.out k hlt
     have a:Hid (digB (s[k].toNat:Int)=decide (48<=(s[k].toNat:Int)/\(s[k].toNat:Int)<=57)):=rfl
     cases hb:qaT s[k] with
     | true=>
      have r:Hid (qaT s[k]=true):=hb
      unfold qaT at hb
      rw[decide_eq_true_eq]at hb
      rcases hb with ⟨l,u⟩|⟨l,u⟩
      ·have b:digB (s[k].toNat:Int)=false:=by rw[a.out];exact decide_eq_false (by omega)
       go_wp2_with (go_at_call 139;refine (qdL _ _ (by omega) j).mono ?_;rintro e w' ⟨rfl,rfl⟩;rw[b])
       go_round
       case rel=>exact⟨k+1,by omega,by go_num,qdS k hlt m.out r.out⟩
       case measure=>simp[intOf];omega
      ·have b:digB (s[k].toNat:Int)=true:=by rw[a.out];exact decide_eq_true ⟨by omega,by omega⟩
       go_wp2_with (go_at_call 139;refine (qdL _ _ (by omega) j).mono ?_;rintro e w' ⟨rfl,rfl⟩;rw[b])
       go_round
       case rel=>exact⟨k+1,by omega,by go_num,qdS k hlt m.out r.out⟩
       case measure=>simp[intOf];omega
     | false=>
      have g:Hid (nameB s=false):=by show _=_;rw[nameB,qfN k hlt hb];simp
      unfold qaT at hb
      rw[decide_eq_false_iff_not]at hb
      have b:digB (s[k].toNat:Int)=false:=by rw[a.out];exact decide_eq_false (by omega)
      rcases (show (s[k].toNat:Int)<97∨122<(s[k].toNat:Int) by omega) with l|l
      all_goals
       clear hb
       go_wp2_with (go_at_call 139;refine (qdL _ _ (by omega) j).mono ?_;rintro e w' ⟨rfl,rfl⟩;rw[b])
       go_ret
       exact⟨qaD g.out.symm,rfl⟩
    ·have g:Hid (nameB s=true):=by show _=_;rw[p.out,q.out,qfO k (by omega) m.out];simp
     go_wp2_with fail
     go_ret
     exact⟨qaD g.out.symm,rfl⟩
 ·have g:Hid (nameB s=false):=by show _=_;rw[nameB,decide_eq_false hl];simp
  rcases (show s.size<1∨8<s.size by omega) with l|l
  all_goals
   clear hl
   go_enter func106,ntmps106
   go_wp2_with fail
   go_ret
   exact⟨qaD g.out.symm,rfl⟩
theorem qgF(x:Int)(w:World):Calls prog 109 #[.int .i64 x] w fun e w'=>e=.returned (.bool (decide (-999999999<=x/\x<=999999999)))/\w'=w:=by
 by_cases h : -999999999<=x<;>by_cases h2:x<=999999999
 all_goals
  go_enter func109,ntmps109
  go_wp2
  go_ret
  exact⟨qaD (by simp[h,h2];try omega),rfl⟩
theorem qnK(s:ByteArray)(w:World)(hs:s.size<=maxLen):Calls prog 162 #[.string s] w fun e w'=>e=.returned (.bool (textB s))/\w'=w:=by
 unfold maxLen at hs
 by_cases hl:s.size<=60
 ·go_enter func162,ntmps162
  go_wp2
  go_loop [9] (fun i=>∃k:Nat,k<=s.size/\i=.int .i64 k/\(s.data.toList.take k).all qgP=true) (fun i=>s.size-(intOf i).toNat)
  case atStart=>exact⟨0,Nat.zero_le _,rfl,by simp⟩
  case round=>
   obtain⟨k,h,rfl,a⟩:=hrel
   have c:=hidF a
   clear a
   by_cases hlt:k<s.size
   ·cases hb:qgP s[k] with
    | true=>
     have f:Hid (qgP s[k]=true):=hb
     unfold qgP at hb
     rw[decide_eq_true_eq]at hb
     obtain⟨j,l,d⟩:=hb
     have g:((s[k].toNat:Int)==34)=false:=by simpa using d
     clear d
     go_wp2
     go_round
     case rel=>exact⟨k+1,by omega,by go_num,qdS k hlt c.out f.out⟩
     case measure=>simp[intOf];omega
    | false=>
     have b:Hid (textB s=false):=by show _=_;rw[textB,qfN k hlt hb];simp
     unfold qgP at hb
     rw[decide_eq_false_iff_not]at hb
     go_wp2
     all_goals first
      | (go_ret;exact⟨qaD b.out.symm,rfl⟩)
      | (exfalso;apply hb;simp_all)
   ·have b:Hid (textB s=true):=by show _=_;rw[textB,qfO k (by omega) c.out];simp[hl]
    go_wp2
    go_ret
    exact⟨qaD b.out.symm,rfl⟩
 ·go_enter func162,ntmps162
  go_wp2
  go_ret
  exact⟨qaD (by simp[textB,hl]),rfl⟩
def CapOk(v:Value):Prop:=∃(a:Option Addr)(n c:Nat),v=.slice a n c/\n<=c
def NodeIn(S:Nat->Prop)(w:World):(n:Nat)->T n->Value->Value->Value->Value->Value->Prop
 | 0,_,_,_,_,_,_=>False
 | n + 1, t, c0, c1, c2, c3, c4 => c0 = .int .i64 (Nd.sort t) /\ c1 = .int .i64 (Nd.num t) /\ c2 = .string (Nd.text t) /\ (Nd.text t).size <= maxLen /\
   (Lit.int .i64 (Nd.sort t)).wf=true/\(Lit.int .i64 (Nd.num t)).wf=true/\StrsIn S w (Nd.names t) c3/\RowIn S w (NodeIn S w n) (Nd.kids t) c4/\CapOk c3/\CapOk c4
theorem NodeIn.keep{S S':Nat->Prop}{w w':World}(hb:Same S w w')(hS:∀b,S b->S' b):∀ {n:Nat} {t:T n} {c0 c1 c2 c3 c4:Value},NodeIn S w n t c0 c1 c2 c3 c4->NodeIn S' w' n t c0 c1 c2 c3 c4:=by
 intro n
 induction n with
 | zero=>intro t c0 c1 c2 c3 c4 h;exact h.elim
 | succ n ih=>
  intro t c0 c1 c2 c3 c4 h
  obtain⟨d,e,f,g,a,c,i,j,k,l⟩:=h
  exact⟨d,e,f,g,a,c,i.keep hb hS,j.keep hb hS fun x _ _ _ _ _ _ hx=>ih hx,k,l⟩
theorem NodeIn.tree{S:Nat->Prop}{w:World}:∀ {n:Nat} {t:T n} {c0 c1 c2 c3 c4:Value},NodeIn S w n t c0 c1 c2 c3 c4->TreeIn S w n t c0 c1 c2 c3 c4:=by
 intro n
 induction n with
 | zero=>intro t c0 c1 c2 c3 c4 h;exact h.elim
 | succ n ih=>
  intro t c0 c1 c2 c3 c4 h
  obtain⟨c,d,e,f,a,b,g,i,-,-⟩:=h
  exact⟨c,d,e,f,a,b,g,i.keep (fun _ _=>rfl) (fun _ h=>h) fun x _ _ _ _ _ _ hx=>ih hx⟩
theorem NodeIn.shape {S:Nat->Prop} {w:World} {n:Nat} {t:T n} {c0 c1 c2 c3 c4:Value} (h:NodeIn S w n t c0 c1 c2 c3 c4) :
  ∃(s m:Int)(x:ByteArray)(a:Option Addr)(l c:Nat)(a':Option Addr)(l' c':Nat),c0=.int .i64 s/\c1=.int .i64 m/\c2=.string x/\c3=.slice a l c/\c4=.slice a' l' c':=h.tree.shape
theorem RowIn.keepN{S S':Nat->Prop}{w w':World}{n:Nat}{l:List (T n)}{v:Value}(h:RowIn S w (NodeIn S w n) l v)(hb:Same S w w')(hS:∀b,S b->S' b):RowIn S' w' (NodeIn S' w' n) l v:=
 h.keep hb hS fun _ _ _ _ _ _ _ hx=>hx.keep hb hS
theorem NodeIn.step {S:Nat->Prop} {w w':World} {n:Nat} {t:T n} {c0 c1 c2 c3 c4:Value} (h:NodeIn S w n t c0 c1 c2 c3 c4) (hB:∀ b,S b->b<w.heap.size) (hb:Below w.heap.size w w') :
  NodeIn S w' n t c0 c1 c2 c3 c4/\∀b,S b->b<w'.heap.size:=
 ⟨h.keep (qaB hb hB) (fun _ h=>h),fun b hb2=>Nat.lt_of_lt_of_le (hB b hb2) hb.size⟩
structure Box5(w:World)(N:Nat)(a b c d e:Value):Prop where
 c0:w.cell? ⟨N,0,none⟩=some a
 c1:w.cell? ⟨N,1,none⟩=some b
 c2:w.cell? ⟨N,2,none⟩=some c
 c3:w.cell? ⟨N,3,none⟩=some d
 c4:w.cell? ⟨N,4,none⟩=some e
theorem Box5.keep{w w':World}{N:Nat}{a b c d e:Value}(h:Box5 w N a b c d e)(hb:Below w.heap.size w w'):Box5 w' N a b c d e:=by
 have f:N<w.heap.size:=by
  have h:=h.c0
  exact Classical.byContradiction fun hge=>by
   have:w.heap[N]?=none:=Array.getElem?_eq_none (by omega)
   simp[World.cell?,this]at h
 exact⟨(hb.cell (p:=⟨N,0,none⟩) f).trans h.c0,(hb.cell (p:=⟨N,1,none⟩) f).trans h.c1,(hb.cell (p:=⟨N,2,none⟩) f).trans h.c2,(hb.cell (p:=⟨N,3,none⟩) f).trans h.c3,(hb.cell (p:=⟨N,4,none⟩) f).trans h.c4⟩
theorem Box5.new(w:World)(a b c d e:Value)(t:TypeId):Box5 (w.alloc (.cells #[a,b,c,d,e] t)) w.heap.size a b c d e:=
 ⟨by simp[go_sem],by simp[go_sem],by simp[go_sem],by simp[go_sem],by simp[go_sem]⟩
theorem TreeIn.step{S:Nat->Prop}{w w':World}{n:Nat}{t:T n}{c0 c1 c2 c3 c4:Value}(h:TreeIn S w n t c0 c1 c2 c3 c4)(hS:∀b,S b->b<w.heap.size)(hb:Below w.heap.size w w'):TreeIn S w' n t c0 c1 c2 c3 c4/\(∀b,S b->b<w'.heap.size):=
 ⟨h.keep (qaB hb hS) (fun _ h=>h),fun b hb'=>Nat.lt_of_lt_of_le (hS b hb') hb.size⟩
theorem qgM (S:Nat->Prop) (l:List ByteArray) (v:Value) (w:World) (hl:StrsIn S w l v) :
  Calls prog 163 #[v] w fun e w'=>e=.returned (.bool (riseB l))/\w'=w:=by
 obtain⟨B,cap,rfl,q,g,m⟩:=hl
 unfold maxLen at q
 go_enter func163,ntmps163
 go_wp2_with fail
 go_loop [7] (fun i=>∃k:Nat,k<=l.length/\i=.int .i64 k/\qdR l k=true) (fun i=>l.length-(intOf i).toNat)
 case atStart=>exact⟨0,Nat.zero_le _,rfl,by simp[qdR]⟩
 case round=>
  obtain⟨k,C,rfl,f⟩:=hrel
  have t:Hid (qdR l k=true):=f
  clear f
  by_cases hlt:k<l.length
  ·obtain⟨b,y,rfl,z,a⟩:=m (by intro h;rw[h]at hlt;simp at hlt)
   have x:=a k hlt
   have n:=g l[k] (List.getElem_mem hlt)
   have c:l.getD k ByteArray.empty=l[k]:=by simp[List.getD,hlt]
   cases hnm:nameB l[k] with
   | false=>
    have o:Hid (riseB l=false):=qfM l k hlt (by simp only[qdQ,c,hnm,Bool.false_and])
    have p:Hid (∀w,Calls prog 106 #[.string l[k]] w fun e w'=>e=.returned (.bool false)/\w'=w):=fun w=>by rw[<- hnm];exact qgA _ w n
    clear m g a c hnm
    generalize l[k]=s at *
    go_wp2_with (go_at_call 106;refine (p.out _).mono ?_;rintro e w' ⟨rfl,rfl⟩)
    go_ret
    exact⟨qaD o.out.symm,rfl⟩
   | true=>
    have p:Hid (∀w,Calls prog 106 #[.string l[k]] w fun e w'=>e=.returned (.bool true)/\w'=w):=fun w=>by rw[<- hnm];exact qgA _ w n
    rcases Nat.eq_zero_or_pos k with rfl|A
    ·have u:Hid (qdR l (0+1)=true):=by show _=_;rw[qgE,t.out,qdQ,c,hnm];rfl
     clear m g a c hnm
     rw[Nat.add_zero]at x
     generalize l[0]=s at *
     go_wp2_with (go_at_call 106;refine (p.out _).mono ?_;rintro e w' ⟨rfl,rfl⟩)
     go_round
     case rel=>exact⟨0+1,by omega,by go_num,u.out⟩
     case measure=>simp[intOf];omega
    ·obtain⟨j,rfl⟩:∃j,k=j+1:=⟨k-1,by omega⟩
     have f1:=a j (by omega)
     have d:l.getD j ByteArray.empty=l[j]:=by simp[List.getD,show j<l.length by omega]
     cases hlt':ltB l[j] l[j+1] with
     | false=>
      have o:Hid (riseB l=false):=qfM l (j+1) hlt (by simp only[qdQ,c,Nat.add_sub_cancel,d,hlt'];simp)
      unfold ltB at hlt'
      clear m g a c d hnm
      generalize l[j]=r at *
      generalize l[j+1]=s at *
      go_wp2_with (go_at_call 106;refine (p.out _).mono ?_;rintro e w' ⟨rfl,rfl⟩)
      go_ret
      exact⟨qaD o.out.symm,rfl⟩
     | true=>
      have u:Hid (qdR l (j+1+1)=true):=by show _=_;rw[qgE,t.out,qdQ,c,hnm,Nat.add_sub_cancel,d,hlt'];simp
      unfold ltB at hlt'
      clear m g a c d hnm
      generalize l[j]=r at *
      generalize l[j+1]=s at *
      go_wp2_with (go_at_call 106;refine (p.out _).mono ?_;rintro e w' ⟨rfl,rfl⟩)
      go_round
      case rel=>exact⟨j+1+1,by omega,by go_num,u.out⟩
      case measure=>simp[intOf];omega
  ·have o:Hid (riseB l=true):=by show _=_;rw[riseB,show l.length=k by omega];exact t.out
   clear m g
   go_wp2_with fail
   go_ret
   exact⟨qaD o.out.symm,rfl⟩
theorem just_1 (m:Int) (x:ByteArray) (l:List ByteArray) (ka:Option Addr) (kl kc:Nat) (w:World) (na:Option Addr) (nc:Nat) :
  Calls prog 138 #[.agg #[.int .i64 1,.int .i64 m,.string x,.slice na l.length nc,.slice ka kl kc]] w fun e w'=>e=.returned (.bool (decide (-999999999<=m/\m<=999999999) && x.toList.isEmpty && ((l.length:Int)==0) && ((kl:Int)==0)))/\Below w.heap.size w w':=by
 go_enter func138,ntmps138
 go_wp2_with (go_at_call 109;refine (qgF _ _).mono ?_;rintro e w' ⟨rfl,rfl⟩)
 all_goals
  go_ret
  exact⟨qaD (by simp_all),(Below.refl _ _).alloc (Nat.le_refl _) _⟩
theorem just_2 (m:Int) (x:ByteArray) (l:List ByteArray) (ka:Option Addr) (kl kc:Nat) (w:World) (na:Option Addr) (nc:Nat) (hx:x.size<=maxLen) :
  Calls prog 138 #[.agg #[.int .i64 2,.int .i64 m,.string x,.slice na l.length nc,.slice ka kl kc]] w fun e w'=>e=.returned (.bool ((m==0) && textB x && ((l.length:Int)==0) && ((kl:Int)==0)))/\Below w.heap.size w w':=by
 go_enter func138,ntmps138
 go_wp2_with (go_at_call 162;refine (qnK _ _ hx).mono ?_;rintro e w' ⟨rfl,rfl⟩)
 all_goals
  go_ret
  exact⟨qaD (by simp_all),(Below.refl _ _).alloc (Nat.le_refl _) _⟩
theorem just_3 (m:Int) (x:ByteArray) (l:List ByteArray) (ka:Option Addr) (kl kc:Nat) (w:World) (na:Option Addr) (nc:Nat) :
  Calls prog 138 #[.agg #[.int .i64 3,.int .i64 m,.string x,.slice na l.length nc,.slice ka kl kc]] w fun e w'=>e=.returned (.bool (decide (0<=m/\m<=1) && x.toList.isEmpty && ((l.length:Int)==0) && ((kl:Int)==0)))/\Below w.heap.size w w':=by
 by_cases h0:m=0
 ·subst h0
  go_enter func138,ntmps138
  go_wp2_with fail
  all_goals
   go_ret
   exact⟨qaD (by simp_all),(Below.refl _ _).alloc (Nat.le_refl _) _⟩
 by_cases h1:m=1
 ·subst h1
  go_enter func138,ntmps138
  go_wp2_with fail
  all_goals
   go_ret
   exact⟨qaD (by simp_all),(Below.refl _ _).alloc (Nat.le_refl _) _⟩
 have a:decide (0<=m/\m<=1)=false:=decide_eq_false (by omega)
 have b:(m==0)=false:=by simpa using h0
 have c:(m==1)=false:=by simpa using h1
 rw[a]
 clear a h0 h1
 go_enter func138,ntmps138
 go_wp2_with fail
 all_goals
  go_ret
  exact⟨qaD (by simp_all),(Below.refl _ _).alloc (Nat.le_refl _) _⟩
theorem just_4 (m:Int) (x:ByteArray) (l:List ByteArray) (ka:Option Addr) (kl kc:Nat) (w:World) (na:Option Addr) (nc:Nat) :
  Calls prog 138 #[.agg #[.int .i64 4,.int .i64 m,.string x,.slice na l.length nc,.slice ka kl kc]] w fun e w'=>e=.returned (.bool ((m==0) && x.toList.isEmpty && ((l.length:Int)==0) && decide ((kl:Int)<=20)))/\Below w.heap.size w w':=by
 go_enter func138,ntmps138
 go_wp2_with fail
 all_goals
  go_ret
  exact⟨qaD (by simp_all),(Below.refl _ _).alloc (Nat.le_refl _) _⟩
theorem just_6 (m:Int) (x:ByteArray) (l:List ByteArray) (ka:Option Addr) (kl kc:Nat) (w:World) (na:Option Addr) (nc:Nat) :
  Calls prog 138 #[.agg #[.int .i64 6,.int .i64 m,.string x,.slice na l.length nc,.slice ka kl kc]] w fun e w'=>e=.returned (.bool ((m==0) && x.toList.isEmpty && ((l.length:Int)==0) && decide ((kl:Int)<=1)))/\Below w.heap.size w w':=by
 go_enter func138,ntmps138
 go_wp2_with fail
 all_goals
  go_ret
  exact⟨qaD (by simp_all),(Below.refl _ _).alloc (Nat.le_refl _) _⟩
theorem just_5 (m:Int) (x:ByteArray) (l:List ByteArray) (ka:Option Addr) (kl kc:Nat) (w:World) (na:Option Addr) (nc:Nat) (S:Nat->Prop) (hl:StrsIn S w l (.slice na l.length nc)) (hB:∀ b,S b->b<w.heap.size) :
  Calls prog 138 #[.agg #[.int .i64 5,.int .i64 m,.string x,.slice na l.length nc,.slice ka kl kc]] w fun e w'=>e=.returned (.bool ((m==0) && x.toList.isEmpty && ((l.length:Int)==(kl:Int)) && riseB l))/\Below w.heap.size w w':=by
 by_cases hm:m=0
 ·subst hm
  cases hx:x.toList.isEmpty with
  | false=>
   go_enter func138,ntmps138
   go_wp2_with fail
   all_goals
    go_ret
    exact⟨qaD (by simp_all),(Below.refl _ _).alloc (Nat.le_refl _) _⟩
  | true=>
   by_cases d:l.length=kl
   ·subst d
    have a:=(Below.refl w.heap.size w).alloc (Nat.le_refl _) (.cells #[.int .i64 5,.int .i64 0,.string x,.slice na l.length nc,.slice ka l.length kc] 67)
    have c:=hl.keep (qaB a hB) (fun _ h=>h)
    have i:Hid (Calls prog 163 #[.slice na l.length nc] _ _):=qgM S l _ _ c
    have d:((l.length:Int)==(l.length:Int))=true:=by simp
    clear hl c hB
    cases h0:((l.length:Int)==0) with
    | true=>
     go_enter func138,ntmps138
     go_wp2_with fail
     refine i.out.mono ?_
     rintro e w' ⟨rfl,rfl⟩
     go_wp2_with fail
     go_ret
     exact⟨by simp,a⟩
    | false=>
     go_enter func138,ntmps138
     go_wp2_with fail
     refine i.out.mono ?_
     rintro e w' ⟨rfl,rfl⟩
     go_wp2_with fail
     go_ret
     exact⟨by simp,a⟩
   ·have f:((l.length:Int)==(kl:Int))=false:=by simp;omega
    rw[f]
    clear d
    cases h0:((l.length:Int)==0)<;>cases h1:((kl:Int)==0)
    all_goals
     go_enter func138,ntmps138
     go_wp2_with fail
     go_ret
     exact⟨rfl,(Below.refl _ _).alloc (Nat.le_refl _) _⟩
 ·have g:(m==0)=false:=by simpa using hm
  rw[g]
  clear hm
  go_enter func138,ntmps138
  go_wp2_with fail
  all_goals
   go_ret
   exact⟨qaD (by simp_all),(Below.refl _ _).alloc (Nat.le_refl _) _⟩
theorem qyC (s m:Int) (x:ByteArray) (l:List ByteArray) (ka:Option Addr) (kl kc:Nat) (w:World) (na:Option Addr) (nc:Nat)
  (h1:(s==1)=false) (h2:(s==2)=false) (h3:(s==3)=false) (h4:(s==4)=false) (h5:(s==5)=false) (h6:(s==6)=false) :
  Calls prog 138 #[.agg #[.int .i64 s,.int .i64 m,.string x,.slice na l.length nc,.slice ka kl kc]] w fun e w'=>e=.returned (.bool false)/\Below w.heap.size w w':=by
 go_enter func138,ntmps138
 go_wp2_with fail
 all_goals
  go_ret
  exact⟨rfl,(Below.refl _ _).alloc (Nat.le_refl _) _⟩
theorem xgF (s m:Int) (x:ByteArray) (l:List ByteArray) (ka:Option Addr) (kl kc:Nat) (w:World) (na:Option Addr) (nc:Nat) (hx:x.size<=maxLen)
  (S:Nat->Prop) (hl:StrsIn S w l (.slice na l.length nc)) (hB:∀b,S b->b<w.heap.size) :
  Calls prog 138 #[.agg #[.int .i64 s,.int .i64 m,.string x,.slice na l.length nc,.slice ka kl kc]] w fun e w'=>e=.returned (.bool (qaO s m x l kl))/\Below w.heap.size w w':=by
 unfold qaO
 by_cases h1:s=1
 ·subst h1;rw[if_pos rfl];exact just_1 m x l ka kl kc w na nc
 rw[if_neg h1]
 by_cases h2:s=2
 ·subst h2;rw[if_pos rfl];exact just_2 m x l ka kl kc w na nc hx
 rw[if_neg h2]
 by_cases h3:s=3
 ·subst h3;rw[if_pos rfl];exact just_3 m x l ka kl kc w na nc
 rw[if_neg h3]
 by_cases h4:s=4
 ·subst h4;rw[if_pos rfl];exact just_4 m x l ka kl kc w na nc
 rw[if_neg h4]
 by_cases h5:s=5
 ·subst h5;rw[if_pos rfl];exact just_5 m x l ka kl kc w na nc S hl hB
 rw[if_neg h5]
 by_cases h6:s=6
 ·subst h6;rw[if_pos rfl];exact just_6 m x l ka kl kc w na nc
 rw[if_neg h6]
 exact qyC s m x l ka kl kc w na nc (by simp[h1]) (by simp[h2]) (by simp[h3]) (by simp[h4]) (by simp[h5]) (by simp[h6])
theorem xgG (S:Nat->Prop) (s m:Int) (x:ByteArray) (hx:x.size<=maxLen) (l:List ByteArray) (na ka:Option Addr) (nc kl kc pb mb ab:Nat) (d p:Int) (w:World) (hl:StrsIn S w l (.slice na l.length nc)) (hB:∀ b,S b->b<w.heap.size/\b≠pb)
  (hp:Cap w pb mb ab p 120 138) (hp0:0<=p) (hp1:p<=120) :
  Calls prog 161 #[.agg #[.int .i64 s,.int .i64 m,.string x,.slice na l.length nc,.slice ka kl kc],.int .i64 d,.pointer (some ⟨pb,0,none⟩),.pointer (some ⟨mb,0,none⟩),.pointer (some ⟨ab,0,none⟩)] w
   fun e w'=>e=.returned (.bool (decide (p+1<=120) && decide (d<=6) && qaO s m x l kl))/\Prt w' pb (p+1)/\Near pb w w':=by
 have o:=hp.parts.lt
 have g:Near pb w (w.setCell ⟨pb,0,none⟩ (.int .i64 (p+1))):=Near.set pb 0 _ (.int .i64 (p+1))
 have a:=g.trans (Near.alloc pb _ (.cells #[.int .i64 s,.int .i64 m,.string x,.slice na l.length nc,.slice ka kl kc] 67))
 have c:Prt ((w.setCell ⟨pb,0,none⟩ (.int .i64 (p+1))).alloc (.cells #[.int .i64 s,.int .i64 m,.string x,.slice na l.length nc,.slice ka kl kc] 67)) pb (p+1):=(hp.parts.set (p+1)).keep ((Below.refl _ _).alloc (Nat.le_refl _) _)
 have i:=hl.keep (a.same hB) (fun _ h=>h)
 have n:Hid (Calls prog 138 _ _ _):=xgF s m x l ka kl kc _ na nc hx S i (fun b hb=>by have:=(hB b hb).1;simp;omega)
 have c0:=hp.parts.cell
 have u:=hp.parts.free
 have q:=hp.max
 have a0:=hp.acc
 have nm:=hp.nm
 have r:=hp.na
 have v:mb<w.heap.size:=qlA q
 have y:ab<w.heap.size:=qlA a0
 have t:w.heap.size≠pb:=by omega
 clear hl i hp g hB
 by_cases h1:p+1<=120
 ·by_cases h2:d<=6
  ·go_enter func161,ntmps161
   go_wp2_with fail
   refine n.out.mono ?_
   rintro e w' ⟨rfl,f⟩
   have j:Prt w' pb (p+1):=(f.block pb (by simp;omega)).trans c
   have k:=a.trans (Near.of_below (bb:=pb) f)
   clear f n
   go_wp2_with fail
   go_ret
   exact⟨qaD (by simp[h1,h2]),j,k⟩
  ·go_enter func161,ntmps161
   go_wp2_with fail
   go_ret
   exact⟨qaD (by rw[decide_eq_false (show ¬d<=6 by omega)];simp),c,a⟩
 ·go_enter func161,ntmps161
  go_wp2_with fail
  go_ret
  exact⟨qaD (by rw[decide_eq_false (show ¬p+1<=120 by omega)];simp),c,a⟩
theorem qpS{α:Type}{p:α->Bool}{l:List α}(k:Nat)(h:k<l.length)(ht:(l.take k).all p=true)(hf:p l[k]=true):(l.take (k+1)).all p=true:=by
 rw[List.take_succ_eq_append_getElem h,List.all_append,ht];simpa using hf
def qiV(n:Nat)(t:T n)(d p:Int)(pb:Nat)(w:World)(e:Ending)(w':World):Prop:=
 Near pb w w' /\ ∃r,e=.returned (.bool r)/\(r=true->goodT n t d=true/\p+(cntT n t:Int)<=120/\Prt w' pb (p+cntT n t))/\(r=false->¬(goodT n t d=true/\p+(cntT n t:Int)<=120))
def clT(pb mb ab:Nat):Value:=.func (.func 161) #[] #[.pointer (some ⟨pb,0,none⟩),.pointer (some ⟨mb,0,none⟩),.pointer (some ⟨ab,0,none⟩)]
def qmD(n:Nat):Prop:=∀(S:Nat->Prop)(t:T n)(c0 c1 c2 c3 c4:Value)(d p:Int)(pb mb ab:Nat)(w:World),TreeIn S w n t c0 c1 c2 c3 c4->(∀b,S b->b<w.heap.size/\b≠pb)->Cap w pb mb ab p 120 138->0<=p->p<=120->1<=d->d<=7 ->
 Calls prog 160 #[.agg #[c0,c1,c2,c3,c4],.int .i64 d,clT pb mb ab] w (qiV n t d p pb w)
theorem xcE(a b c d e:Value)(ha:∃x l k,e=.slice x l k)(w:World):Calls prog 213 #[.agg #[a,b,c,d,e]] w fun e' w'=>e'=.returned e/\Below w.heap.size w w':=by
 obtain⟨x,l,k,rfl⟩:=ha
 have f:=(Below.refl w.heap.size w).alloc (Nat.le_refl _) (.cells #[a,b,c,d,.slice x l k] 67)
 go_enter func213,ntmps213
 go_wp2_with fail
 go_ret
 exact⟨rfl,f⟩
theorem xcF {n:Nat} {t:T (n+1)} {d p:Int} (k:Nat) (hk:k<(Nd.kids t).length)
  (h:¬(goodT n (Nd.kids t)[k] (d+1)=true/\p+1+(sumL (fun x=>cntT n x) ((Nd.kids t).take k):Int)+(cntT n (Nd.kids t)[k]:Int)<=120)):¬(goodT (n+1) t d=true/\p+(cntT (n+1) t:Int)<=120):=by
 rintro ⟨a,c⟩
 apply h
 simp only[goodT,Bool.and_eq_true,List.all_eq_true]at a
 refine⟨a.2 _ (List.getElem_mem hk),?_⟩
 have e:=qbB (fun x=>cntT n x) (Nd.kids t) k hk
 have b:=qcP (fun x=>cntT n x) ((Nd.kids t).take (k+1)) ((Nd.kids t).drop (k+1))
 rw[List.take_append_drop]at b
 simp only[cntT]at c
 omega
theorem qyD(n:Nat)(hn:qmD n):qmD (n+1):=by
 intro S t c0 c1 c2 c3 c4 d p v mb ab w ht J g aF aG aQ aR
 obtain⟨rfl,rfl,rfl,aH,-,-,h3,h4⟩:=ht
 obtain⟨na,nc,rfl,-,-,-⟩:=id h3
 obtain⟨ka,kc,rfl,aB,-⟩:=id h4
 unfold maxLen at aB
 have l:=g.parts.lt
 generalize hs:Nd.sort t=s at *
 have L:=(Below.refl w.heap.size w).alloc (Nat.le_refl _) (.cells #[.int .i64 s,.int .i64 (Nd.num t),.string (Nd.text t),.slice na (Nd.names t).length nc,.slice ka (Nd.kids t).length kc] 67)
 have H:Near v w (w.alloc (.cells #[.int .i64 s,.int .i64 (Nd.num t),.string (Nd.text t),.slice na (Nd.names t).length nc,.slice ka (Nd.kids t).length kc] 67)):=Near.of_below L
 have V:=h3.keep (H.same J) (fun _ h=>h)
 have W:Hid (Calls prog 161 _ _ _):=xgG S s (Nd.num t) (Nd.text t) aH (Nd.names t) na ka nc (Nd.kids t).length kc v mb ab d p _ V (fun b hb=>by have:=J b hb;simp;omega) (g.keep H (g.parts.keep L)) aF aG
 unfold clT
 go_enter func160,ntmps160
 go_wp2_with fail
 refine W.out.mono ?_
 rintro e O ⟨rfl,P,j⟩
 have y:=H.trans j
 have M:=g.keep y P
 have aM:=y.size
 have aN:w.heap.size<O.heap.size:=by have:=j.size;simp at this;omega
 have k0:O.cell? ⟨w.heap.size,0,none⟩=some (.int .i64 s):=j.cell (by simp[go_sem]) (by omega)
 have k1:O.cell? ⟨w.heap.size,1,none⟩=some (.int .i64 (Nd.num t)):=j.cell (by simp[go_sem]) (by omega)
 have k2:O.cell? ⟨w.heap.size,2,none⟩=some (.string (Nd.text t)):=j.cell (by simp[go_sem]) (by omega)
 have k3:O.cell? ⟨w.heap.size,3,none⟩=some (.slice na (Nd.names t).length nc):=j.cell (by simp[go_sem]) (by omega)
 have k4:O.cell? ⟨w.heap.size,4,none⟩=some (.slice ka (Nd.kids t).length kc):=j.cell (by simp[go_sem]) (by omega)
 have X:=h4.keepT (y.same J) (fun _ h=>h)
 clear W H L V j h3 h4
 generalize hok:(decide (p+1<=120) && decide (d<=6) && qaO s (Nd.num t) (Nd.text t) (Nd.names t) (Nd.kids t).length)=ok
 cases ok with
 | false=>
  have Y:Hid (qiV (n+1) t d p v w (.returned (.bool false)) O):=by
   refine⟨y,false,rfl,fun h=>(by cases h),fun _=>?_⟩
   rintro ⟨U,hc⟩
   simp only[goodT,Bool.and_eq_true,decide_eq_true_eq]at U
   have ha:qaO s (Nd.num t) (Nd.text t) (Nd.names t) (Nd.kids t).length=true:=by rw[<- hs];exact U.1.2
   have:p+1<=120:=by simp only[cntT]at hc;omega
   rw[ha,decide_eq_true U.1.1,decide_eq_true this]at hok
   cases hok
  clear hok hs
  go_wp2_with fail
  go_ret
  exact Y.out
 | true=>
  simp only[Bool.and_eq_true,decide_eq_true_eq]at hok
  have aD:Hid ((decide (d<=6) && qiF (show Nd (T n) from t))=true):=by show (_ && qaO (Nd.sort t) _ _ _ _)=_;rw[hs,hok.2,decide_eq_true hok.1.2];rfl
  obtain⟨⟨aI,aS⟩,-⟩:=hok
  clear hs
  go_wp2_with fail
  refine (xcE _ _ _ _ _ ⟨_,_,_,rfl⟩ _).mono ?_
  rintro e w2 ⟨rfl,E⟩
  have Z:Near v w w2:=y.trans (Near.of_below E)
  have aE:Prt w2 v (p+1):=P.keep E
  have aO:=E.size
  have h5:=X.keepT ((Near.of_below (bb:=v) E).same (fun b hb=>by have:=J b hb;omega)) (fun _ h=>h)
  clear X E M y P k0 k1 k2 k3 k4
  obtain⟨_,_,aJ,-,m⟩:=h5
  cases aJ
  go_wp2_with fail
  go_loopw [18] (fun i wr=>∃ k:Nat,k<=(Nd.kids t).length/\i=.int .i64 k/\Near v w2 wr/\Prt wr v (p+1+(sumL (fun x=>cntT n x) ((Nd.kids t).take k):Int)) /\
    p+1+(sumL (fun x=>cntT n x) ((Nd.kids t).take k):Int)<=120/\((Nd.kids t).take k).all (fun x=>goodT n x (d+1))=true) (fun i _=>(Nd.kids t).length-(intOf i).toNat)
  case atStart=>exact⟨0,Nat.zero_le _,rfl,Near.refl _ _,by simpa [sumL] using aE,by simpa [sumL] using aI,by simp⟩
  case round=>
   obtain⟨k,hk,rfl,c,o,a,K⟩:=hrel
   have f:=hidF K
   clear K
   have aP:=c.size
   have z:=Z.trans c
   have aL:=o.lt
   by_cases l:k<(Nd.kids t).length
   ·obtain⟨b,aT,rfl,aK,F⟩:=m (by intro h;rw[h]at l;simp at l)
    obtain⟨x0,x1,x2,x3,x4,e0,e1,e2,e3,e4,hr⟩:=F k l
    have A:=J b aK
    have f0:=c.cell e0 A.2
    have f1:=c.cell e1 A.2
    have f2:=c.cell e2 A.2
    have f3:=c.cell e3 A.2
    have f4:=c.cell e4 A.2
    have q:=hr.keep (c.same (fun b hb=>by have:=J b hb;omega)) (fun _ h=>h)
    obtain⟨y0,y1,y2,ya,yl,yc,za,zl,zc,rfl,rfl,rfl,rfl,rfl⟩:=q.shape
    clear m F e0 e1 e2 e3 e4 hr
    have N:=(Below.refl wr.heap.size wr).alloc (Nat.le_refl _) (.cells #[.int .i64 y0,.int .i64 y1,.string y2,.slice ya yl yc,.slice za zl zc] 67)
    have B:Near v wr (wr.alloc (.cells #[.int .i64 y0,.int .i64 y1,.string y2,.slice ya yl yc,.slice za zl zc] 67)):=Near.of_below N
    have q5:=q.keep (B.same (fun b hb=>by have:=J b hb;omega)) (fun _ h=>h)
    have C:=g.keep (z.trans B) (o.keep N)
    have W:Hid (Calls prog 160 _ _ _):=hn S (Nd.kids t)[k] _ _ _ _ _ (d+1) _ v mb ab _ q5 (fun b hb=>by have:=J b hb;simp;omega) C (by omega) a (by omega) (by omega)
    have D:=@xcF n t d p k l
    have u:Hid (sumL (fun x=>cntT n x) ((Nd.kids t).take (k+1))=sumL (fun x=>cntT n x) ((Nd.kids t).take k)+cntT n (Nd.kids t)[k]):=qbB _ _ _ l
    clear q q5 C N
    unfold clT at W
    go_wp2_with fail
    refine W.out.mono ?_
    rintro e w3 ⟨Q,r,rfl,G,R⟩
    have I:=c.trans (B.trans Q)
    cases r with
    | false=>
     have Y:Hid (qiV (n+1) t d p v w (.returned (.bool false)) w3):=⟨Z.trans I,false,rfl,fun h=>(by cases h),fun _=>D (R rfl)⟩
     clear D R G u f Q I B z
     go_wp2_with fail
     go_ret
     exact Y.out
    | true=>
     obtain⟨U,hc,aC⟩:=G rfl
     have HR:Hid (Near v w2 w3/\Prt w3 v (p+1+(sumL (fun x=>cntT n x) ((Nd.kids t).take (k+1)):Int))/\p+1+(sumL (fun x=>cntT n x) ((Nd.kids t).take (k+1)):Int)<=120/\((Nd.kids t).take (k+1)).all (fun x=>goodT n x (d+1))=true):=by
      refine⟨I,?_,?_,qpS k l f.out U⟩
      ·rw[u.out,show p+1+((sumL (fun x=>cntT n x) ((Nd.kids t).take k)+cntT n (Nd.kids t)[k]:Nat):Int)=p+1+(sumL (fun x=>cntT n x) ((Nd.kids t).take k):Int)+(cntT n (Nd.kids t)[k]:Int) by omega]
       exact aC
      ·rw[u.out];omega
     clear D R G u f Q I B z U hc aC o a
     go_wp2_with fail
     go_roundw
     case rel=>exact⟨k+1,by omega,by go_num,HR.out.1,HR.out.2.1,HR.out.2.2.1,HR.out.2.2.2⟩
     case measure=>simp[intOf];omega
   ·have aA:k=(Nd.kids t).length:=by omega
    have Y:Hid (qiV (n+1) t d p v w (.returned (.bool true)) wr):=by
     have h1:=f.out
     rw[aA,List.take_length]at h1 o a
     have e:p+1+(sumL (fun x=>cntT n x) (Nd.kids t):Int)=p+(cntT (n+1) t:Int):=by simp only[cntT];omega
     rw[e]at o a
     exact⟨z,true,rfl,fun _=>⟨by have:=aD.out;simp only[goodT,this,h1,Bool.and_self],a,o⟩,fun h=>(by cases h)⟩
    clear aA m f z o a
    go_wp2_with fail
    go_ret
    exact Y.out
theorem xcG:∀n,qmD n:=by
 intro n
 induction n with
 | zero=>intro S t c0 c1 c2 c3 c4 d p b c e w a;exact a.elim
 | succ n ih=>exact qyD n ih
theorem xcH (n:Nat) (S:Nat->Prop) (t:T n) (c0 c1 c2 c3 c4:Value) (w:World) (ht:TreeIn S w n t c0 c1 c2 c3 c4) (hB:∀ b,S b->b<w.heap.size) :
  Calls prog 137 #[.agg #[c0,c1,c2,c3,c4],.int .i64 120,.func (.func 138) #[] #[]] w fun e w'=>e=.returned (.bool (okT n t))/\Below w.heap.size w w':=by
 have x:∀(fn:Fn)(first cap:Array Value)(w:World),(Instr.makeFunc fn first cap).run prog w=.ok (.func fn first cap) w:=fun _ _ _ _=>rfl
 obtain⟨j,k,l,m,o,p,q,s,u,rfl,rfl,rfl,rfl,rfl⟩:=ht.shape
 have c:Below w.heap.size w ((((w.alloc (.cells #[.int .i64 j,.int .i64 k,.string l,.slice m o p,.slice q s u] 67)).alloc (.cells #[.int .i64 120] 3)).alloc (.cells #[.func (.func 138) #[] #[]] 92)).alloc (.cells #[.int .i64 0] 3)):=
  ((((Below.refl _ _).alloc (Nat.le_refl _) _).alloc (by simp) _).alloc (by simp;omega) _).alloc (by simp;omega) _
 have d:=ht.keep (qaB c hB) (fun _ h=>h)
 have g:Hid (Calls prog 160 _ _ _):=xcG n S t _ _ _ _ _ 1 0 (w.heap.size+1+1+1) (w.heap.size+1) (w.heap.size+1+1) _ d (fun b c=>by have:=hB b c;simp;omega)
  ⟨by rw[show w.heap.size+1+1+1=(((w.alloc (.cells #[.int .i64 j,.int .i64 k,.string l,.slice m o p,.slice q s u] 67)).alloc (.cells #[.int .i64 120] 3)).alloc (.cells #[.func (.func 138) #[] #[]] 92)).heap.size by simp];exact Prt.new _ 0,
   by simp[go_sem],by simp[go_sem],by omega,by omega⟩ (by omega) (by omega) (by omega) (by omega)
 unfold clT at g
 clear ht d
 go_enter func137,ntmps137
 go_wp2_with fail
 refine g.out.mono ?_
 rintro e y ⟨v,r,rfl,a,f⟩
 have i:Below w.heap.size w y:=c.trans (v.below (by omega) (by simp;omega))
 have A:r=okT n t:=by
  cases r with
  | true=>
   obtain⟨z,B,-⟩:=a rfl
   unfold okT;rw[z,decide_eq_true (by omega)];rfl
  | false=>
   symm
   rw[Bool.eq_false_iff]
   intro h
   simp only[okT,Bool.and_eq_true,decide_eq_true_eq]at h
   exact f rfl ⟨h.1,by omega⟩
 clear a f v c g
 go_wp2_with fail
 go_ret
 exact⟨rfl,i⟩
theorem qoM (n:Nat) (S:Nat->Prop) (t:T n) (c0 c1 c2 c3 c4:Value) (w:World) (ht:TreeIn S w n t c0 c1 c2 c3 c4) (hB:∀ b,S b->b<w.heap.size) :
  Calls prog 105 #[.agg #[c0,c1,c2,c3,c4]] w fun e w'=>e=.returned (.bool (okT n t))/\Below w.heap.size w w':=by
 obtain⟨i,j,k,l,m,o,p,q,r,rfl,rfl,rfl,rfl,rfl⟩:=ht.shape
 have a:=(Below.refl w.heap.size w).alloc (Nat.le_refl _) (.cells #[.int .i64 i,.int .i64 j,.string k,.slice l m o,.slice p q r] 67)
 obtain⟨c,g⟩:=ht.step hB a
 have h:Hid (Calls prog 137 _ _ _):=xcH n S t _ _ _ _ _ _ c g
 clear ht c
 go_enter func105,ntmps105
 go_wp2_with fail
 refine h.out.mono ?_
 rintro e s ⟨rfl,d⟩
 have f:=qaA a (by simp) d
 clear a d h
 go_wp2_with fail
 go_ret
 exact⟨rfl,f⟩
def RowIn3{α:Type}(S:Nat->Prop)(w:World)(R:α->Value->Value->Value->Prop)(l:List α)(v:Value):Prop:=
 ∃(ao:Option Addr)(cap:Nat),v=.slice ao l.length cap/\l.length<=maxLen /\
  (l≠[]->∃b off,ao=some ⟨b,off,none⟩/\S b/\∀i (h:i<l.length),∃c0 c1 c2,w.cell? ⟨b,off+i*3,none⟩=some c0/\w.cell? ⟨b,off+i*3+1,none⟩=some c1 /\
   w.cell? ⟨b,off+i*3+2,none⟩=some c2/\R l[i] c0 c1 c2)
def KindIn(S:Nat->Prop)(w:World):(n:Nat)->K n->Value->Value->Value->Prop
 | 0,_,_,_,_=>False
 | n+1,t,c0,c1,c2=>c0=.int .i64 (Kd.sort t)/\(Lit.int .i64 (Kd.sort t)).wf=true/\StrsIn S w (Kd.names t) c1/\RowIn3 S w (KindIn S w n) (Kd.kids t) c2
theorem RowIn3.keep {α:Type} {S S':Nat->Prop} {w w':World} {R R':α->Value->Value->Value->Prop} {l:List α} {v:Value} (h:RowIn3 S w R l v) (hb:Same S w w') (hS:∀ b,S b->S' b)
  (hR:∀x c0 c1 c2,x∈l->R x c0 c1 c2->R' x c0 c1 c2):RowIn3 S' w' R' l v:=by
 obtain⟨e,cap,f,g,j⟩:=h
 refine⟨e,cap,f,g,fun hne=>?_⟩
 obtain⟨b,a,k,d,c⟩:=j hne
 refine⟨b,a,k,hS b d,fun i hi=>?_⟩
 obtain⟨c0,c1,c2,m,n,o,q⟩:=c i hi
 exact⟨c0,c1,c2,(hb.cell (p:=⟨b,a+i*3,none⟩) d).trans m,(hb.cell (p:=⟨b,a+i*3+1,none⟩) d).trans n,(hb.cell (p:=⟨b,a+i*3+2,none⟩) d).trans o,
  hR _ _ _ _ (List.getElem_mem hi) q⟩
theorem KindIn.keep{S S':Nat->Prop}{w w':World}(hb:Same S w w')(hS:∀b,S b->S' b):∀ {n:Nat} {t:K n} {c0 c1 c2:Value},KindIn S w n t c0 c1 c2->KindIn S' w' n t c0 c1 c2:=by
 intro n
 induction n with
 | zero=>intro t c0 c1 c2 h;exact h.elim
 | succ n ih=>
  intro t c0 c1 c2 h
  obtain⟨c,a,d,e⟩:=h
  exact⟨c,a,d.keep hb hS,e.keep hb hS fun x _ _ _ _ hx=>ih hx⟩
theorem RowIn3.keepK{S S':Nat->Prop}{w w':World}{n:Nat}{l:List (K n)}{v:Value}(h:RowIn3 S w (KindIn S w n) l v)(hb:Same S w w')(hS:∀b,S b->S' b):RowIn3 S' w' (KindIn S' w' n) l v:=
 h.keep hb hS fun _ _ _ _ _ hx=>hx.keep hb hS
theorem KindIn.shape {S:Nat->Prop} {w:World}:∀ {n:Nat} {t:K n} {c0 c1 c2:Value},KindIn S w n t c0 c1 c2 ->
  ∃(s:Int)(a:Option Addr)(l c:Nat)(a':Option Addr)(l' c':Nat),c0=.int .i64 s/\c1=.slice a l c/\c2=.slice a' l' c':=by
 intro n
 cases n with
 | zero=>intro t c0 c1 c2 h;exact h.elim
 | succ n=>
  intro t c0 c1 c2 h
  obtain⟨d,e,⟨j,cap,f,-⟩,⟨g,b,i,-⟩⟩:=h
  exact⟨_,_,_,_,_,_,_,d,f,i⟩
def put3(w:World)(b o:Nat)(g0 g1 g2:Value):World:=
 ((w.setCell ⟨b,o,none⟩ g0).setCell ⟨b,o+1,none⟩ g1).setCell ⟨b,o+2,none⟩ g2
theorem qcV{w:World}{b o:Nat}{g0 g1 g2:Value}{k:Nat}(h:k≠b):(put3 w b o g0 g1 g2).heap[k]?=w.heap[k]?:=by
 unfold put3
 rw[Below.heap_setCell _ _ _ _ h,Below.heap_setCell _ _ _ _ h,Below.heap_setCell _ _ _ _ h]
theorem qfG{w:World}{b o:Nat}{g0 g1 g2:Value}:(put3 w b o g0 g1 g2).heap.size=w.heap.size:=by
 simp[put3]
theorem qeW{B:Nat}{a w:World}{b o:Nat}{g0 g1 g2:Value}(h:Below B a w)(hb:B<=b):Below B a (put3 w b o g0 g1 g2):=
 ((h.setCell hb g0).setCell hb g1).setCell hb g2
structure Box3(w:World)(N:Nat)(a b c:Value):Prop where
 c0:w.cell? ⟨N,0,none⟩=some a
 c1:w.cell? ⟨N,1,none⟩=some b
 c2:w.cell? ⟨N,2,none⟩=some c
theorem Box3.keep{w w':World}{N:Nat}{a b c:Value}(h:Box3 w N a b c)(hb:Below w.heap.size w w'):Box3 w' N a b c:=by
 have d:N<w.heap.size:=by
  have h:=h.c0
  exact Classical.byContradiction fun hge=>by
   have:w.heap[N]?=none:=Array.getElem?_eq_none (by omega)
   simp[World.cell?,this]at h
 exact⟨(hb.cell (p:=⟨N,0,none⟩) d).trans h.c0,(hb.cell (p:=⟨N,1,none⟩) d).trans h.c1,(hb.cell (p:=⟨N,2,none⟩) d).trans h.c2⟩
theorem Box3.new(w:World)(a b c:Value)(t:TypeId):Box3 (w.alloc (.cells #[a,b,c] t)) w.heap.size a b c:=
 ⟨by simp[go_sem],by simp[go_sem],by simp[go_sem]⟩
theorem KindIn.step{S:Nat->Prop}{w w':World}{n:Nat}{t:K n}{c0 c1 c2:Value}(h:KindIn S w n t c0 c1 c2)(hS:∀b,S b->b<w.heap.size)(hb:Below w.heap.size w w'):KindIn S w' n t c0 c1 c2/\(∀b,S b->b<w'.heap.size):=
 ⟨h.keep (qaB hb hS) (fun _ h=>h),fun b hb'=>Nat.lt_of_lt_of_le (hS b hb') hb.size⟩
theorem qjX (s:Int) (l:List ByteArray) (ka:Option Addr) (kl kc:Nat) (w:World) (na:Option Addr) (nc:Nat) (hs:s=1∨s=2∨s=3) :
  Calls prog 171 #[.agg #[.int .i64 s,.slice na l.length nc,.slice ka kl kc]] w fun e w'=>e=.returned (.bool (((l.length:Int)==0) && ((kl:Int)==0)))/\Below w.heap.size w w':=by
 rcases hs with rfl|rfl|rfl
 all_goals
  go_enter func171,ntmps171
  go_wp2_with fail
  all_goals
   go_ret
   exact⟨qaD (by simp_all),(Below.refl _ _).alloc (Nat.le_refl _) _⟩
theorem qsF (s:Int) (l:List ByteArray) (ka:Option Addr) (kl kc:Nat) (w:World) (na:Option Addr) (nc:Nat) (hs:s=4∨s=6) :
  Calls prog 171 #[.agg #[.int .i64 s,.slice na l.length nc,.slice ka kl kc]] w fun e w'=>e=.returned (.bool (((l.length:Int)==0) && ((kl:Int)==1)))/\Below w.heap.size w w':=by
 rcases hs with rfl|rfl
 all_goals
  go_enter func171,ntmps171
  go_wp2_with fail
  all_goals
   go_ret
   exact⟨qaD (by simp_all),(Below.refl _ _).alloc (Nat.le_refl _) _⟩
theorem qyF (l:List ByteArray) (ka:Option Addr) (kl kc:Nat) (w:World) (na:Option Addr) (nc:Nat) (S:Nat->Prop) (hl:StrsIn S w l (.slice na l.length nc)) (hB:∀ b,S b->b<w.heap.size) :
  Calls prog 171 #[.agg #[.int .i64 5,.slice na l.length nc,.slice ka kl kc]] w fun e w'=>e=.returned (.bool (((l.length:Int)==(kl:Int)) && riseB l))/\Below w.heap.size w w':=by
 by_cases d:l.length=kl
 ·subst d
  have a:=(Below.refl w.heap.size w).alloc (Nat.le_refl _) (.cells #[.int .i64 5,.slice na l.length nc,.slice ka l.length kc] 55)
  have c:=hl.keep (qaB a hB) (fun _ h=>h)
  have g:Hid (Calls prog 163 #[.slice na l.length nc] _ _):=qgM S l _ _ c
  have d:((l.length:Int)==(l.length:Int))=true:=by simp
  clear hl c hB
  go_enter func171,ntmps171
  go_wp2_with fail
  refine g.out.mono ?_
  rintro e w' ⟨rfl,rfl⟩
  go_wp2_with fail
  go_ret
  exact⟨by simp,a⟩
 ·have f:((l.length:Int)==(kl:Int))=false:=by simp;omega
  rw[f]
  clear d
  go_enter func171,ntmps171
  go_wp2_with fail
  go_ret
  exact⟨rfl,(Below.refl _ _).alloc (Nat.le_refl _) _⟩
theorem quP (s:Int) (l:List ByteArray) (ka:Option Addr) (kl kc:Nat) (w:World) (na:Option Addr) (nc:Nat)
  (h1:(s==1)=false) (h2:(s==2)=false) (h3:(s==3)=false) (h4:(s==4)=false) (h5:(s==5)=false) (h6:(s==6)=false) :
  Calls prog 171 #[.agg #[.int .i64 s,.slice na l.length nc,.slice ka kl kc]] w fun e w'=>e=.returned (.bool false)/\Below w.heap.size w w':=by
 have a:=(Below.refl w.heap.size w).alloc (Nat.le_refl _) (.cells #[.int .i64 s,.slice na l.length nc,.slice ka kl kc] 55)
 go_enter func171,ntmps171
 go_wp2_with fail
 go_ret
 exact⟨rfl,a⟩
theorem xcO (s:Int) (l:List ByteArray) (ka:Option Addr) (kl kc:Nat) (w:World) (na:Option Addr) (nc:Nat)
  (S:Nat->Prop) (hl:StrsIn S w l (.slice na l.length nc)) (hB:∀b,S b->b<w.heap.size) :
  Calls prog 171 #[.agg #[.int .i64 s,.slice na l.length nc,.slice ka kl kc]] w fun e w'=>e=.returned (.bool (qbJ s l kl))/\Below w.heap.size w w':=by
 unfold qbJ
 by_cases h1:s=1
 ·subst h1;rw[if_pos rfl];exact qjX 1 l ka kl kc w na nc (.inl rfl)
 rw[if_neg h1]
 by_cases h2:s=2
 ·subst h2;rw[if_pos rfl];exact qjX 2 l ka kl kc w na nc (.inr (.inl rfl))
 rw[if_neg h2]
 by_cases h3:s=3
 ·subst h3;rw[if_pos rfl];exact qjX 3 l ka kl kc w na nc (.inr (.inr rfl))
 rw[if_neg h3]
 by_cases h4:s=4
 ·subst h4;rw[if_pos rfl];exact qsF 4 l ka kl kc w na nc (.inl rfl)
 rw[if_neg h4]
 by_cases h5:s=5
 ·subst h5;rw[if_pos rfl];exact qyF l ka kl kc w na nc S hl hB
 rw[if_neg h5]
 by_cases h6:s=6
 ·subst h6;rw[if_pos rfl];exact qsF 6 l ka kl kc w na nc (.inr rfl)
 rw[if_neg h6]
 exact quP s l ka kl kc w na nc (by simp[h1]) (by simp[h2]) (by simp[h3]) (by simp[h4]) (by simp[h5]) (by simp[h6])
theorem xgM (S:Nat->Prop) (s:Int) (l:List ByteArray) (na ka:Option Addr) (nc kl kc pb mb ab:Nat) (d p:Int) (w:World) (hl:StrsIn S w l (.slice na l.length nc)) (hB:∀ b,S b->b<w.heap.size/\b≠pb)
  (hp:Cap w pb mb ab p 40 171) (hp0:0<=p) (hp1:p<=40) :
  Calls prog 184 #[.agg #[.int .i64 s,.slice na l.length nc,.slice ka kl kc],.int .i64 d,.pointer (some ⟨pb,0,none⟩),.pointer (some ⟨mb,0,none⟩),.pointer (some ⟨ab,0,none⟩)] w
   fun e w'=>e=.returned (.bool (decide (p+1<=40) && decide (d<=6) && qbJ s l kl))/\Prt w' pb (p+1)/\Near pb w w':=by
 have n:=hp.parts.lt
 have g:Near pb w (w.setCell ⟨pb,0,none⟩ (.int .i64 (p+1))):=Near.set pb 0 _ (.int .i64 (p+1))
 have a:=g.trans (Near.alloc pb _ (.cells #[.int .i64 s,.slice na l.length nc,.slice ka kl kc] 55))
 have c:Prt ((w.setCell ⟨pb,0,none⟩ (.int .i64 (p+1))).alloc (.cells #[.int .i64 s,.slice na l.length nc,.slice ka kl kc] 55)) pb (p+1):=(hp.parts.set (p+1)).keep ((Below.refl _ _).alloc (Nat.le_refl _) _)
 have i:=hl.keep (a.same hB) (fun _ h=>h)
 have m:Hid (Calls prog 171 _ _ _):=xcO s l ka kl kc _ na nc S i (fun b hb=>by have:=(hB b hb).1;simp;omega)
 have c0:=hp.parts.cell
 have t:=hp.parts.free
 have o:=hp.max
 have a0:=hp.acc
 have nm:=hp.nm
 have q:=hp.na
 have u:mb<w.heap.size:=qlA o
 have v:ab<w.heap.size:=qlA a0
 have r:w.heap.size≠pb:=by omega
 clear hl i hp g hB
 by_cases h1:p+1<=40
 ·by_cases h2:d<=6
  ·go_enter func184,ntmps184
   go_wp2_with fail
   refine m.out.mono ?_
   rintro e w' ⟨rfl,f⟩
   have j:Prt w' pb (p+1):=(f.block pb (by simp;omega)).trans c
   have k:=a.trans (Near.of_below (bb:=pb) f)
   clear f m
   go_wp2_with fail
   go_ret
   exact⟨qaD (by simp[h1,h2]),j,k⟩
  ·go_enter func184,ntmps184
   go_wp2_with fail
   go_ret
   exact⟨qaD (by rw[decide_eq_false (show ¬d<=6 by omega)];simp),c,a⟩
 ·go_enter func184,ntmps184
  go_wp2_with fail
  go_ret
  exact⟨qaD (by rw[decide_eq_false (show ¬p+1<=40 by omega)];simp),c,a⟩
def qiZ(n:Nat)(t:K n)(d p:Int)(pb:Nat)(w:World)(e:Ending)(w':World):Prop:=
 Near pb w w' /\ ∃r,e=.returned (.bool r)/\(r=true->goodK n t d=true/\p+(cntK n t:Int)<=40/\Prt w' pb (p+cntK n t))/\(r=false->¬(goodK n t d=true/\p+(cntK n t:Int)<=40))
def clK(pb mb ab:Nat):Value:=.func (.func 184) #[] #[.pointer (some ⟨pb,0,none⟩),.pointer (some ⟨mb,0,none⟩),.pointer (some ⟨ab,0,none⟩)]
def qmH(n:Nat):Prop:=∀(S:Nat->Prop)(t:K n)(c0 c1 c2:Value)(d p:Int)(pb mb ab:Nat)(w:World),KindIn S w n t c0 c1 c2->(∀b,S b->b<w.heap.size/\b≠pb)->Cap w pb mb ab p 40 171->0<=p->p<=40->1<=d->d<=7 ->
 Calls prog 183 #[.agg #[c0,c1,c2],.int .i64 d,clK pb mb ab] w (qiZ n t d p pb w)
theorem xcP(a b c:Value)(ha:∃x l k,c=.slice x l k)(w:World):Calls prog 212 #[.agg #[a,b,c]] w fun e w'=>e=.returned c/\Below w.heap.size w w':=by
 obtain⟨x,l,k,rfl⟩:=ha
 have d:=(Below.refl w.heap.size w).alloc (Nat.le_refl _) (.cells #[a,b,.slice x l k] 55)
 go_enter func212,ntmps212
 go_wp2_with fail
 go_ret
 exact⟨rfl,d⟩
theorem xcQ {n:Nat} {t:K (n+1)} {d p:Int} (k:Nat) (hk:k<(Kd.kids t).length)
  (h:¬(goodK n (Kd.kids t)[k] (d+1)=true/\p+1+(sumL (fun x=>cntK n x) ((Kd.kids t).take k):Int)+(cntK n (Kd.kids t)[k]:Int)<=40)):¬(goodK (n+1) t d=true/\p+(cntK (n+1) t:Int)<=40):=by
 rintro ⟨a,c⟩
 apply h
 simp only[goodK,Bool.and_eq_true,List.all_eq_true]at a
 refine⟨a.2 _ (List.getElem_mem hk),?_⟩
 have e:=qbB (fun x=>cntK n x) (Kd.kids t) k hk
 have b:=qcP (fun x=>cntK n x) ((Kd.kids t).take (k+1)) ((Kd.kids t).drop (k+1))
 rw[List.take_append_drop]at b
 simp only[cntK]at c
 omega
theorem qyG(n:Nat)(hn:qmH n):qmH (n+1):=by
 intro S t c0 c1 c2 d p u mb ab w ht I f aE aF aO aP
 obtain⟨rfl,-,h3,h4⟩:=ht
 obtain⟨na,nc,rfl,-,-,-⟩:=id h3
 obtain⟨ka,kc,rfl,aA,-⟩:=id h4
 unfold maxLen at aA
 have g:=f.parts.lt
 generalize hs:Kd.sort t=s at *
 have L:=(Below.refl w.heap.size w).alloc (Nat.le_refl _) (.cells #[.int .i64 s,.slice na (Kd.names t).length nc,.slice ka (Kd.kids t).length kc] 55)
 have G:Near u w (w.alloc (.cells #[.int .i64 s,.slice na (Kd.names t).length nc,.slice ka (Kd.kids t).length kc] 55)):=Near.of_below L
 have U:=h3.keep (G.same I) (fun _ h=>h)
 have V:Hid (Calls prog 184 _ _ _):=xgM S s (Kd.names t) na ka nc (Kd.kids t).length kc u mb ab d p _ U (fun b hb=>by have:=I b hb;simp;omega) (f.keep G (f.parts.keep L)) aE aF
 unfold clK
 go_enter func183,ntmps183
 go_wp2_with fail
 refine V.out.mono ?_
 rintro e w1 ⟨rfl,P,y⟩
 have v:=G.trans y
 have M:=f.keep v P
 have aK:=v.size
 have aL:w.heap.size<w1.heap.size:=by have:=y.size;simp at this;omega
 have k0:w1.cell? ⟨w.heap.size,0,none⟩=some (.int .i64 s):=y.cell (by simp[go_sem]) (by omega)
 have k1:w1.cell? ⟨w.heap.size,1,none⟩=some (.slice na (Kd.names t).length nc):=y.cell (by simp[go_sem]) (by omega)
 have k2:w1.cell? ⟨w.heap.size,2,none⟩=some (.slice ka (Kd.kids t).length kc):=y.cell (by simp[go_sem]) (by omega)
 have W:=h4.keepK (v.same I) (fun _ h=>h)
 clear V G L U y h3 h4
 generalize hok:(decide (p+1<=40) && decide (d<=6) && qbJ s (Kd.names t) (Kd.kids t).length)=ok
 cases ok with
 | false=>
  have X:Hid (qiZ (n+1) t d p u w (.returned (.bool false)) w1):=by
   refine⟨v,false,rfl,fun h=>(by cases h),fun _=>?_⟩
   rintro ⟨T,hc⟩
   simp only[goodK,Bool.and_eq_true,decide_eq_true_eq]at T
   have ha:qbJ s (Kd.names t) (Kd.kids t).length=true:=by rw[<- hs];exact T.1.2
   have:p+1<=40:=by simp only[cntK]at hc;omega
   rw[ha,decide_eq_true T.1.1,decide_eq_true this]at hok
   cases hok
  clear hok hs
  go_wp2_with fail
  go_ret
  exact X.out
 | true=>
  simp only[Bool.and_eq_true,decide_eq_true_eq]at hok
  have aC:Hid ((decide (d<=6) && qrI (show Kd (K n) from t))=true):=by show (_ && qbJ (Kd.sort t) _ _)=_;rw[hs,hok.2,decide_eq_true hok.1.2];rfl
  obtain⟨⟨aG,aQ⟩,-⟩:=hok
  clear hs
  go_wp2_with fail
  refine (xcP _ _ _ ⟨_,_,_,rfl⟩ _).mono ?_
  rintro e w2 ⟨rfl,D⟩
  have Y:Near u w w2:=v.trans (Near.of_below D)
  have aD:Prt w2 u (p+1):=P.keep D
  have aM:=D.size
  have h5:=W.keepK ((Near.of_below (bb:=u) D).same (fun b hb=>by have:=I b hb;omega)) (fun _ h=>h)
  clear W D M v P k0 k1 k2
  obtain⟨_,_,aH,-,j⟩:=h5
  cases aH
  go_wp2_with fail
  go_loopw [18] (fun i wr=>∃ k:Nat,k<=(Kd.kids t).length/\i=.int .i64 k/\Near u w2 wr/\Prt wr u (p+1+(sumL (fun x=>cntK n x) ((Kd.kids t).take k):Int)) /\
    p+1+(sumL (fun x=>cntK n x) ((Kd.kids t).take k):Int)<=40/\((Kd.kids t).take k).all (fun x=>goodK n x (d+1))=true) (fun i _=>(Kd.kids t).length-(intOf i).toNat)
  case atStart=>exact⟨0,Nat.zero_le _,rfl,Near.refl _ _,by simpa [sumL] using aD,by simpa [sumL] using aG,by simp⟩
  case round=>
   obtain⟨k,hk,rfl,l,m,a,J⟩:=hrel
   have c:=hidF J
   clear J
   have aN:=l.size
   have z:=Y.trans l
   have aJ:=m.lt
   by_cases g:k<(Kd.kids t).length
   ·obtain⟨b,aR,rfl,aI,E⟩:=j (by intro h;rw[h]at g;simp at g)
    obtain⟨x0,x1,x2,e0,e1,e2,hr⟩:=E k g
    have N:=I b aI
    have f0:=l.cell e0 N.2
    have f1:=l.cell e1 N.2
    have f2:=l.cell e2 N.2
    have q:=hr.keep (l.same (fun b hb=>by have:=I b hb;omega)) (fun _ h=>h)
    obtain⟨y0,ya,yl,yc,za,zl,zc,rfl,rfl,rfl⟩:=q.shape
    clear j E e0 e1 e2 hr
    have O:=(Below.refl wr.heap.size wr).alloc (Nat.le_refl _) (.cells #[.int .i64 y0,.slice ya yl yc,.slice za zl zc] 55)
    have A:Near u wr (wr.alloc (.cells #[.int .i64 y0,.slice ya yl yc,.slice za zl zc] 55)):=Near.of_below O
    have q5:=q.keep (A.same (fun b hb=>by have:=I b hb;omega)) (fun _ h=>h)
    have B:=f.keep (z.trans A) (m.keep O)
    have V:Hid (Calls prog 183 _ _ _):=hn S (Kd.kids t)[k] _ _ _ (d+1) _ u mb ab _ q5 (fun b hb=>by have:=I b hb;simp;omega) B (by omega) a (by omega) (by omega)
    have C:=@xcQ n t d p k g
    have o:Hid (sumL (fun x=>cntK n x) ((Kd.kids t).take (k+1))=sumL (fun x=>cntK n x) ((Kd.kids t).take k)+cntK n (Kd.kids t)[k]):=qbB _ _ _ g
    clear q q5 B O
    unfold clK at V
    go_wp2_with fail
    refine V.out.mono ?_
    rintro e w3 ⟨Q,r,rfl,F,R⟩
    have H:=l.trans (A.trans Q)
    cases r with
    | false=>
     have X:Hid (qiZ (n+1) t d p u w (.returned (.bool false)) w3):=⟨Y.trans H,false,rfl,fun h=>(by cases h),fun _=>C (R rfl)⟩
     clear C R F o c Q H A z
     go_wp2_with fail
     go_ret
     exact X.out
    | true=>
     obtain⟨T,hc,aB⟩:=F rfl
     have HR:Hid (Near u w2 w3/\Prt w3 u (p+1+(sumL (fun x=>cntK n x) ((Kd.kids t).take (k+1)):Int))/\p+1+(sumL (fun x=>cntK n x) ((Kd.kids t).take (k+1)):Int)<=40/\((Kd.kids t).take (k+1)).all (fun x=>goodK n x (d+1))=true):=by
      refine⟨H,?_,?_,qeP k g c.out T⟩
      ·rw[o.out,show p+1+((sumL (fun x=>cntK n x) ((Kd.kids t).take k)+cntK n (Kd.kids t)[k]:Nat):Int)=p+1+(sumL (fun x=>cntK n x) ((Kd.kids t).take k):Int)+(cntK n (Kd.kids t)[k]:Int) by omega]
       exact aB
      ·rw[o.out];omega
     clear C R F o c Q H A z T hc aB m a
     go_wp2_with fail
     go_roundw
     case rel=>exact⟨k+1,by omega,by go_num,HR.out.1,HR.out.2.1,HR.out.2.2.1,HR.out.2.2.2⟩
     case measure=>simp[intOf];omega
   ·have Z:k=(Kd.kids t).length:=by omega
    have X:Hid (qiZ (n+1) t d p u w (.returned (.bool true)) wr):=by
     have h1:=c.out
     rw[Z,List.take_length]at h1 m a
     have e:p+1+(sumL (fun x=>cntK n x) (Kd.kids t):Int)=p+(cntK (n+1) t:Int):=by simp only[cntK];omega
     rw[e]at m a
     exact⟨z,true,rfl,fun _=>⟨by have:=aC.out;simp only[goodK,this,h1,Bool.and_self],a,m⟩,fun h=>(by cases h)⟩
    clear Z j c z m a
    go_wp2_with fail
    go_ret
    exact X.out
theorem xcR:∀n,qmH n:=by
 intro n
 induction n with
 | zero=>intro S t c0 c1 c2 d p b c e w a;exact a.elim
 | succ n ih=>exact qyG n ih
theorem xcS (n:Nat) (S:Nat->Prop) (t:K n) (c0 c1 c2:Value) (w:World) (ht:KindIn S w n t c0 c1 c2) (hB:∀ b,S b->b<w.heap.size) :
  Calls prog 170 #[.agg #[c0,c1,c2],.int .i64 40,.func (.func 171) #[] #[]] w fun e w'=>e=.returned (.bool (okK n t))/\Below w.heap.size w w':=by
 have u:∀(fn:Fn)(first cap:Array Value)(w:World),(Instr.makeFunc fn first cap).run prog w=.ok (.func fn first cap) w:=fun _ _ _ _=>rfl
 obtain⟨j,k,l,m,o,p,q,rfl,rfl,rfl⟩:=ht.shape
 have c:Below w.heap.size w ((((w.alloc (.cells #[.int .i64 j,.slice k l m,.slice o p q] 55)).alloc (.cells #[.int .i64 40] 3)).alloc (.cells #[.func (.func 171) #[] #[]] 74)).alloc (.cells #[.int .i64 0] 3)):=
  ((((Below.refl _ _).alloc (Nat.le_refl _) _).alloc (by simp) _).alloc (by simp;omega) _).alloc (by simp;omega) _
 have d:=ht.keep (qaB c hB) (fun _ h=>h)
 have g:Hid (Calls prog 183 _ _ _):=xcR n S t _ _ _ 1 0 (w.heap.size+1+1+1) (w.heap.size+1) (w.heap.size+1+1) _ d (fun b c=>by have:=hB b c;simp;omega)
  ⟨by rw[show w.heap.size+1+1+1=(((w.alloc (.cells #[.int .i64 j,.slice k l m,.slice o p q] 55)).alloc (.cells #[.int .i64 40] 3)).alloc (.cells #[.func (.func 171) #[] #[]] 74)).heap.size by simp];exact Prt.new _ 0,
   by simp[go_sem],by simp[go_sem],by omega,by omega⟩ (by omega) (by omega) (by omega) (by omega)
 unfold clK at g
 clear ht d
 go_enter func170,ntmps170
 go_wp2_with fail
 refine g.out.mono ?_
 rintro e v ⟨s,r,rfl,a,f⟩
 have i:Below w.heap.size w v:=c.trans (s.below (by omega) (by simp;omega))
 have y:r=okK n t:=by
  cases r with
  | true=>
   obtain⟨x,z,-⟩:=a rfl
   unfold okK;rw[x,decide_eq_true (by omega)];rfl
  | false=>
   symm
   rw[Bool.eq_false_iff]
   intro h
   simp only[okK,Bool.and_eq_true,decide_eq_true_eq]at h
   exact f rfl ⟨h.1,by omega⟩
 clear a f s c g
 go_wp2_with fail
 go_ret
 exact⟨rfl,i⟩
theorem quQ (n:Nat) (S:Nat->Prop) (t:K n) (c0 c1 c2:Value) (w:World) (ht:KindIn S w n t c0 c1 c2) (hB:∀ b,S b->b<w.heap.size) :
  Calls prog 144 #[.agg #[c0,c1,c2]] w fun e w'=>e=.returned (.bool (okK n t))/\Below w.heap.size w w':=by
 obtain⟨i,j,k,l,m,o,p,rfl,rfl,rfl⟩:=ht.shape
 have a:=(Below.refl w.heap.size w).alloc (Nat.le_refl _) (.cells #[.int .i64 i,.slice j k l,.slice m o p] 55)
 obtain⟨c,g⟩:=ht.step hB a
 have h:Hid (Calls prog 170 _ _ _):=xcS n S t _ _ _ _ c g
 clear ht c
 go_enter func144,ntmps144
 go_wp2_with fail
 refine h.out.mono ?_
 rintro e q ⟨rfl,d⟩
 have f:=qaA a (by simp) d
 clear a d h
 go_wp2_with fail
 go_ret
 exact⟨rfl,f⟩
theorem qhQ{n:Nat}{k:K (n+1)}{d:Int}(h:goodK (n+1) k d=true)(h5:¬Kd.sort k=5):Kd.names k=[]:=by
 simp only[goodK,Bool.and_eq_true]at h
 have a:qbJ (Kd.sort k) (Kd.names k) (Kd.kids k).length=true:=h.1.2
 unfold qbJ at a
 rw[if_neg h5]at a
 have e:((Kd.names k).length:Int)=0:=by
  split at a
  ·simp at a;simp[a.1]
  split at a
  ·simp at a;simp[a.1]
  split at a
  ·simp at a;simp[a.1]
  split at a
  ·simp at a;simp[a.1]
  split at a
  ·simp at a;simp[a.1]
  ·cases a
 exact List.eq_nil_of_length_eq_zero (by omega)
theorem xcW{n:Nat}{k:K (n+1)}{d:Int}(h:goodK (n+1) k d=true)(h5:Kd.sort k=5):(Kd.names k).length=(Kd.kids k).length/\riseB (Kd.names k)=true:=by
 simp only[goodK,Bool.and_eq_true]at h
 have a:qbJ (Kd.sort k) (Kd.names k) (Kd.kids k).length=true:=h.1.2
 unfold qbJ at a
 rw[h5]at a
 simp at a
 exact⟨by omega,a.2⟩
theorem qyH{l:List ByteArray}(h:riseB l=true):∀s,s∈l->s.size<=8:=by
 intro s c
 obtain⟨i,a,rfl⟩:=List.getElem_of_mem c
 unfold riseB qdR at h
 have:=List.all_eq_true.1 h i (List.mem_range.2 a)
 simp only[qdQ,Bool.and_eq_true,nameB,decide_eq_true_eq]at this
 have b:=this.1.1.1.2
 simpa [List.getD,a] using b
theorem Tryz.yes_num(x:Value)(w:World):(Instr.typeAssert (.iface 166 x) 133 166 true).run prog w=.ok (.tuple #[x,.bool true]) w:=by kernel_rfl
theorem Tryz.no_num_text(x:Value)(w:World):(Instr.typeAssert (.iface 167 x) 133 166 true).run prog w=.ok (.tuple #[.int .i64 0,.bool false]) w:=by kernel_rfl
theorem Tryz.yes_text(x:Value)(w:World):(Instr.typeAssert (.iface 167 x) 133 167 true).run prog w=.ok (.tuple #[x,.bool true]) w:=by kernel_rfl
theorem Tryz.no_num_flag(x:Value)(w:World):(Instr.typeAssert (.iface 168 x) 133 166 true).run prog w=.ok (.tuple #[.int .i64 0,.bool false]) w:=by kernel_rfl
theorem Tryz.no_text_flag(x:Value)(w:World):(Instr.typeAssert (.iface 168 x) 133 167 true).run prog w=.ok (.tuple #[.string ByteArray.empty,.bool false]) w:=by kernel_rfl
theorem Tryz.yes_flag(x:Value)(w:World):(Instr.typeAssert (.iface 168 x) 133 168 true).run prog w=.ok (.tuple #[x,.bool true]) w:=by kernel_rfl
theorem Tryz.no_num_list(x:Value)(w:World):(Instr.typeAssert (.iface 170 x) 133 166 true).run prog w=.ok (.tuple #[.int .i64 0,.bool false]) w:=by kernel_rfl
theorem Tryz.no_text_list(x:Value)(w:World):(Instr.typeAssert (.iface 170 x) 133 167 true).run prog w=.ok (.tuple #[.string ByteArray.empty,.bool false]) w:=by kernel_rfl
theorem Tryz.no_flag_list(x:Value)(w:World):(Instr.typeAssert (.iface 170 x) 133 168 true).run prog w=.ok (.tuple #[.bool false,.bool false]) w:=by kernel_rfl
theorem Tryz.yes_list(x:Value)(w:World):(Instr.typeAssert (.iface 170 x) 133 170 true).run prog w=.ok (.tuple #[x,.bool true]) w:=by kernel_rfl
theorem Tryz.no_num_form(x:Value)(w:World):(Instr.typeAssert (.iface 173 x) 133 166 true).run prog w=.ok (.tuple #[.int .i64 0,.bool false]) w:=by kernel_rfl
theorem Tryz.no_text_form(x:Value)(w:World):(Instr.typeAssert (.iface 173 x) 133 167 true).run prog w=.ok (.tuple #[.string ByteArray.empty,.bool false]) w:=by kernel_rfl
theorem Tryz.no_flag_form(x:Value)(w:World):(Instr.typeAssert (.iface 173 x) 133 168 true).run prog w=.ok (.tuple #[.bool false,.bool false]) w:=by kernel_rfl
theorem Tryz.no_list_form(x:Value)(w:World):(Instr.typeAssert (.iface 173 x) 133 170 true).run prog w=.ok (.tuple #[.slice none 0 0,.bool false]) w:=by kernel_rfl
theorem Tryz.yes_form(x:Value)(w:World):(Instr.typeAssert (.iface 173 x) 133 173 true).run prog w=.ok (.tuple #[x,.bool true]) w:=by kernel_rfl
theorem Tryz.no_num_maybe(x:Value)(w:World):(Instr.typeAssert (.iface 175 x) 133 166 true).run prog w=.ok (.tuple #[.int .i64 0,.bool false]) w:=by kernel_rfl
theorem Tryz.no_text_maybe(x:Value)(w:World):(Instr.typeAssert (.iface 175 x) 133 167 true).run prog w=.ok (.tuple #[.string ByteArray.empty,.bool false]) w:=by kernel_rfl
theorem Tryz.no_flag_maybe(x:Value)(w:World):(Instr.typeAssert (.iface 175 x) 133 168 true).run prog w=.ok (.tuple #[.bool false,.bool false]) w:=by kernel_rfl
theorem Tryz.no_list_maybe(x:Value)(w:World):(Instr.typeAssert (.iface 175 x) 133 170 true).run prog w=.ok (.tuple #[.slice none 0 0,.bool false]) w:=by kernel_rfl
theorem Tryz.no_form_maybe(x:Value)(w:World):(Instr.typeAssert (.iface 175 x) 133 173 true).run prog w=.ok (.tuple #[.agg #[.slice none 0 0,.slice none 0 0],.bool false]) w:=by kernel_rfl
theorem Tryz.yes_maybe(x:Value)(w:World):(Instr.typeAssert (.iface 175 x) 133 175 true).run prog w=.ok (.tuple #[x,.bool true]) w:=by kernel_rfl
end Go.Proofs.YtelogmjfekhmpaaGreatDoor
