import Derived.Test.YtelogmjfekhmpaaGreatDoorRd3
import Derived.Test.YtelogmjfekhmpaaGreatDoorKParse
namespace Go.Proofs.YtelogmjfekhmpaaGreatDoor
open Go.RowKit
def qwW (s:ByteArray) (L i' i1:Nat) (bad1:Bool):Prop:=
 (L=0/\i1=i' /\ bad1=false)∨(¬ L=0/\((eatP [44] (s.data.toList.drop i')=some (s.data.toList.drop (i'+1))/\i'+1<=s.size/\i1=i'+1/\bad1=false)∨(eatP [44] (s.data.toList.drop i')=none/\i1=i' /\ bad1=true)))
def xiA (s:ByteArray) (j i3:Nat) (bad1 bad3:Bool):Prop:=
 (eatP [58] (s.data.toList.drop j)=some (s.data.toList.drop (j+1))/\j+1<=s.size/\i3=j+1/\bad3=bad1)∨(eatP [58] (s.data.toList.drop j)=none/\i3=j/\bad3=true)
def GotK (m n:Nat) (s:ByteArray) (i:Nat) (bad:Bool) (t:K m) (i':Nat) (bad':Bool):Prop:=
 i<=i' /\ (bad'=false->bad=false/\i<i' /\ i'<=s.size)/\(bad=false->i'<=s.size+n)/\(bad=true->i'=i) /\
  (∀ (t0:K m) post,bad=false->s.data.toList.drop i=txtK m t0++post->goodK m t0 (7 - (n:Int))=true->t=t0/\bad'=false/\i'=i+(txtK m t0).length)
def qfT (m n:Nat) (s:ByteArray) (i:Nat) (ns:List ByteArray) (ks:List (K m)) (i':Nat) (bad':Bool):Prop:=
 i<=i' /\ (bad'=false->i<i' /\ i'<=s.size)/\i'<=s.size+n/\ks.length<=i'+(if bad'=true then 1 else 0)/\ns.length=ks.length /\
  ∀ (ns0:List ByteArray) (ks0:List (K m)) post,ns0.length=ks0.length->(∀ x,x∈ns0->nameB x=true)->s.data.toList.drop i=123 :: (joinL (zipL ns0 (ks0.map (txtK m)))++125 :: post)->(∀ k,k∈ks0->goodK m k (7 - (n:Int))=true) ->
   ∃ k,k<=ks0.length/\ks=ks0.take k/\ns=ns0.take k/\bad'=false/\s.data.toList.drop i'=tailL (decide (k=0)) ((zipL ns0 (ks0.map (txtK m))).drop k)++125 :: post
theorem qyZ {x:ByteArray} (h:nameB x=true):∃ c r,x.data.toList=c :: r/\qaV c=true:=by
 have aA:1<=x.size:=by simp only[nameB,Bool.and_eq_true,decide_eq_true_eq]at h;exact h.1.1.1
 cases hd:x.data.toList with
 | nil=>
  have h1:x.data.toList.length=0:=by rw[hd];rfl
  have h2:x.data.toList.length=x.size:=by simp
  omega
 | cons c r=>exact⟨c,r,rfl,qeC h c (by rw[hd];exact List.mem_cons_self ..)⟩
theorem qsY (a:List ByteArray) (l:List (List UInt8)) (k:Nat) (ha:k<a.length) (hl:k<l.length) (h:k<(zipL a l).length):(zipL a l)[k]=a[k].data.toList++58 :: l[k]:=by
 induction a generalizing l k with
 | nil=>simp at ha
 | cons x r ih=>
  cases l with
  | nil=>simp at hl
  | cons y t=>
   cases k with
   | zero=>rfl
   | succ k=>simpa [zipL] using ih t k (by simpa using ha) (by simpa using hl) (by simpa [zipL] using h)
theorem qzA {m n:Nat} {s:ByteArray} {i:Nat} {ns:List ByteArray} {ks:List (K m)} {i' i1 i3 i2:Nat} {bad1 bad3 bad2:Bool} {t2:K m} (hI:qfT m n s i ns ks i' false) (hne:¬ lookB s i'=125) (hc:qwW s ks.length i' i1 bad1)
  (hco:xiA s (i1+((s.data.toList.drop i1).takeWhile qaV).length) i3 bad1 bad3) (hp:GotK m n s i3 bad3 t2 i2 bad2)
  (hsz:i1+((s.data.toList.drop i1).takeWhile qaV).length<=s.size) :
  qfT m n s i (ns++[bs ((s.data.toList.drop i1).takeWhile qaV)]) (ks++[t2]) i2 bad2/\(if bad2=true then 0 else s.size+1 - i2)<s.size+1 - i':=by
 obtain⟨h1,h2,h3,h4,h6,h5⟩:=hI
 obtain⟨p1,p2,p3,p4,p5⟩:=hp
 have h2:=h2 rfl
 have h4:ks.length<=i':=by simpa using h4
 have aL:i'<=i1:=by
  rcases hc with ⟨-,h,-⟩|⟨-,⟨-,-,h,-⟩|⟨-,h,-⟩⟩ <;> omega
 have aM:i1<=i3/\i3<=s.size:=by
  rcases hco with ⟨-,h,h',-⟩|⟨-,h,-⟩ <;> omega
 refine⟨⟨by omega,fun h=>⟨by omega,(p2 h).2.2⟩,?_,?_,by simp[h6],fun ns0 ks0 post hlen hnm he hg=>?_⟩,?_⟩
 ·cases bad3 with
  | false=>exact p3 rfl
  | true=>have:=p4 rfl;omega
 ·rw[List.length_append,List.length_singleton]
  cases bad2 with
  | false=>have:=(p2 rfl).2.1;simp;omega
  | true=>simp;omega
 ·obtain⟨k,hk,aI,aK,-,hd⟩:=h5 ns0 ks0 post hlen hnm he hg
  have aN:ks.length=k:=by rw[aI,List.length_take];omega
  have aO:(zipL ns0 (ks0.map (txtK m))).length=ks0.length:=by rw[qbP _ _ (by simpa using hlen)];simp
  have aE:k<ks0.length:=by
   refine Classical.byContradiction fun hge=>hne ?_
   have:(zipL ns0 (ks0.map (txtK m))).drop k=[]:=List.drop_of_length_le (by omega)
   rw[this]at hd
   unfold lookB
   rw[hd];rfl
  have aD:k<(zipL ns0 (ks0.map (txtK m))).length:=by omega
  have aF:k<ns0.length:=by omega
  rw[List.drop_eq_getElem_cons aD,qsY _ _ _ aF (by simpa using aE) aD,List.getElem_map,tailL,List.append_assoc]at hd
  have aA:bad1=false/\s.data.toList.drop i1=ns0[k].data.toList++58 :: (txtK m ks0[k]++(tailL false ((zipL ns0 (ks0.map (txtK m))).drop (k+1))++125 :: post)):=by
   by_cases hk0:k=0
   ·simp only[hk0,decide_true,if_true,List.append_assoc,List.cons_append]at hd
    rcases hc with ⟨-,h,hb⟩|⟨h,-⟩
    ·refine⟨hb,?_⟩
     rw[h,hd]
     simp only[hk0]
    ·exact absurd (by omega) h
   ·simp only[hk0,decide_false,Bool.false_eq_true,if_false,List.cons_append,List.append_assoc]at hd
    rcases hc with ⟨h,-⟩|⟨-,⟨aB,-,h,hb⟩|⟨aB,-⟩⟩
    ·exact absurd (by omega) hk0
    ·refine⟨hb,?_⟩
     rw[hd,qaE]at aB
     rw[h]
     exact (Option.some.inj aB).symm
    ·rw[hd,qaE]at aB;cases aB
  have aJ:=hnm ns0[k] (List.getElem_mem aF)
  have aG:(s.data.toList.drop i1).takeWhile qaV=ns0[k].data.toList:=by
   rw[aA.2]
   exact qcT _ _ (qeC aJ) (by intro c r e;cases e;decide)
  have aH:s.data.toList.drop (i1+((s.data.toList.drop i1).takeWhile qaV).length)=58 :: (txtK m ks0[k]++(tailL false ((zipL ns0 (ks0.map (txtK m))).drop (k+1))++125 :: post)):=by
   rw[aG,<- List.drop_drop,aA.2,List.drop_left]
  have aC:bad3=false/\s.data.toList.drop i3=txtK m ks0[k]++(tailL false ((zipL ns0 (ks0.map (txtK m))).drop (k+1))++125 :: post):=by
   rcases hco with ⟨aB,-,h,hb⟩|⟨aB,-⟩
   ·rw[aH,qaE]at aB
    exact⟨by rw[hb];exact aA.1,by rw[h];exact (Option.some.inj aB).symm⟩
   ·rw[aH,qaE]at aB;cases aB
  obtain⟨q1,q2,q3⟩:=p5 ks0[k] _ aC.1 aC.2 (hg _ (List.getElem_mem aE))
  refine⟨k+1,by omega,?_,?_,q2,?_⟩
  ·rw[List.take_succ_eq_append_getElem aE,<- aI,q1]
  ·rw[List.take_succ_eq_append_getElem aF,<- aK,aG,bs_of]
  ·rw[q3,<- List.drop_drop,aC.2,List.drop_left]
   simp
 ·cases bad2 with
  | true=>simp;omega
  | false=>have:=(p2 rfl).2;simp;omega
theorem qeF {m:Nat} {t:K (m+1)} {d:Int} (h:goodK (m+1) t d=true) :
  (t=(⟨1,[],[]⟩:Kd (K m))/\txtK (m+1) t=[110,117,109])∨(t=(⟨2,[],[]⟩:Kd (K m))/\txtK (m+1) t=[116,101,120,116])∨(t=(⟨3,[],[]⟩:Kd (K m))/\txtK (m+1) t=[102,108,97,103]) ∨
  (∃ x,t=(⟨4,[],[x]⟩:Kd (K m))/\goodK m x (d+1)=true/\txtK (m+1) t=91 :: (txtK m x++[93]))∨(∃ x,t=(⟨6,[],[x]⟩:Kd (K m))/\goodK m x (d+1)=true/\txtK (m+1) t=63 :: txtK m x) ∨
  (∃ na ki,t=(⟨5,na,ki⟩:Kd (K m))/\na.length=ki.length/\(∀ x,x∈na->nameB x=true)/\(∀ k,k∈ki->goodK m k (d+1)=true)/\txtK (m+1) t=123 :: (joinL (zipL na (ki.map (txtK m)))++[125])):=by
 simp only[goodK,Bool.and_eq_true]at h
 have ha:qbK (Kd.sort t) (Kd.names t) (Kd.kids t).length=true:=h.1.2
 have hk:=List.all_eq_true.1 h.2
 obtain⟨so,na,ki⟩:Kd (K m):=t
 simp only at ha hk
 unfold qbK at ha
 have one:(ki.length:Int)=1->∃ x,ki=[x]/\goodK m x (d+1)=true:=by
  intro hl
  match ki,hl,hk with
  | [x],_,hk=>exact⟨x,rfl,hk x (List.mem_cons_self ..)⟩
 by_cases h1:so=1
 ·rw[if_pos h1]at ha
  simp only[Bool.and_eq_true,beq_iff_eq]at ha
  have e2:na=[]:=List.eq_nil_of_length_eq_zero (by have:=ha.1;omega)
  have e3:ki=[]:=List.eq_nil_of_length_eq_zero (by have:=ha.2;omega)
  subst e2 e3 h1
  exact .inl ⟨rfl,by simp[txtK]⟩
 rw[if_neg h1]at ha
 by_cases h2:so=2
 ·rw[if_pos h2]at ha
  simp only[Bool.and_eq_true,beq_iff_eq]at ha
  have e2:na=[]:=List.eq_nil_of_length_eq_zero (by have:=ha.1;omega)
  have e3:ki=[]:=List.eq_nil_of_length_eq_zero (by have:=ha.2;omega)
  subst e2 e3 h2
  exact .inr (.inl ⟨rfl,by simp[txtK]⟩)
 rw[if_neg h2]at ha
 by_cases h3:so=3
 ·rw[if_pos h3]at ha
  simp only[Bool.and_eq_true,beq_iff_eq]at ha
  have e2:na=[]:=List.eq_nil_of_length_eq_zero (by have:=ha.1;omega)
  have e3:ki=[]:=List.eq_nil_of_length_eq_zero (by have:=ha.2;omega)
  subst e2 e3 h3
  exact .inr (.inr (.inl ⟨rfl,by simp[txtK]⟩))
 rw[if_neg h3]at ha
 by_cases h4:so=4
 ·rw[if_pos h4]at ha
  simp only[Bool.and_eq_true,beq_iff_eq]at ha
  have e2:na=[]:=List.eq_nil_of_length_eq_zero (by have:=ha.1;omega)
  obtain⟨x,e3,hx⟩:=one ha.2
  subst e2 e3 h4
  exact .inr (.inr (.inr (.inl ⟨x,rfl,hx,by simp[txtK,headL]⟩)))
 rw[if_neg h4]at ha
 by_cases h5:so=5
 ·rw[if_pos h5]at ha
  simp only[Bool.and_eq_true,beq_iff_eq]at ha
  have hl:na.length=ki.length:=by have:=ha.1;omega
  subst h5
  exact .inr (.inr (.inr (.inr (.inr ⟨na,ki,rfl,hl,qjW ha.2,fun k hk'=>hk k hk',by simp[txtK]⟩))))
 rw[if_neg h5]at ha
 by_cases h6:so=6
 ·rw[if_pos h6]at ha
  simp only[Bool.and_eq_true,beq_iff_eq]at ha
  have e2:na=[]:=List.eq_nil_of_length_eq_zero (by have:=ha.1;omega)
  obtain⟨x,e3,hx⟩:=one ha.2
  subst e2 e3 h6
  exact .inr (.inr (.inr (.inr (.inl ⟨x,rfl,hx,by simp[txtK,headL]⟩))))
 ·rw[if_neg h6]at ha;cases ha
theorem qcH {s:ByteArray} {i:Nat} {c:UInt8} {r:List UInt8} (h:s.data.toList.drop i=c :: r):lookB s i=c:=by
 unfold lookB;rw[h];rfl
theorem qmR (n:Nat):(7 - ((n+1:Nat):Int))+1=7 - (n:Int):=by omega
theorem qhQ {m n:Nat} {s x:ByteArray} {i:Nat} {i':Nat} {bad':Bool} {so:Int} (hi:i<=s.size) (hs:(eatP x.data.toList (s.data.toList.drop i)=some (s.data.toList.drop (i+x.size))/\i+x.size<=s.size/\i'=i+x.size/\bad'=false)∨(eatP x.data.toList (s.data.toList.drop i)=none/\i'=i/\bad'=true))
  (hx:0<x.size) (hone:∀ (t0:K (m+1)) post,s.data.toList.drop i=txtK (m+1) t0++post->goodK (m+1) t0 (7 - ((n+1:Nat):Int))=true->t0=(⟨so,[],[]⟩:Kd (K m))/\txtK (m+1) t0=x.data.toList) :
  GotK (m+1) (n+1) s i false (⟨so,[],[]⟩:Kd (K m)) i' bad':=by
 rcases hs with ⟨h1,h2,rfl,rfl⟩|⟨h1,rfl,rfl⟩
 ·refine⟨by omega,fun _=>⟨rfl,by omega,h2⟩,fun _=>by omega,fun h=>(by cases h),fun t0 post _ he hg=>?_⟩
  obtain⟨q1,q2⟩:=hone t0 post he hg
  exact⟨q1.symm,rfl,by rw[q2];simp⟩
 ·refine⟨Nat.le_refl _,fun h=>(by cases h),fun _=>by omega,fun h=>(by cases h),fun t0 post _ he hg=>?_⟩
  obtain⟨q1,q2⟩:=hone t0 post he hg
  rw[he,q2,qdK]at h1
  cases h1
theorem xdZ {m:Nat} {s:ByteArray} {i:Nat} {d:Int} (hl:lookB s i=110) (t0:K (m+1)) (post:List UInt8) (he:s.data.toList.drop i=txtK (m+1) t0++post) (hg:goodK (m+1) t0 d=true):t0=(⟨1,[],[]⟩:Kd (K m))/\txtK (m+1) t0=[110,117,109]:=by
 rcases qeF hg with ⟨h1,h2⟩|⟨h1,h2⟩|⟨h1,h2⟩|⟨x,h1,h3,h2⟩|⟨x,h1,h3,h2⟩|⟨a,b,h1,h3,h4,h5,h2⟩
 ·exact⟨h1,h2⟩
 all_goals (rw[h2]at he;rw[qcH he]at hl;exact absurd hl (by decide))
theorem qwX {m:Nat} {s:ByteArray} {i:Nat} {d:Int} (hl:lookB s i=116) (t0:K (m+1)) (post:List UInt8) (he:s.data.toList.drop i=txtK (m+1) t0++post) (hg:goodK (m+1) t0 d=true):t0=(⟨2,[],[]⟩:Kd (K m))/\txtK (m+1) t0=[116,101,120,116]:=by
 rcases qeF hg with ⟨h1,h2⟩|⟨h1,h2⟩|⟨h1,h2⟩|⟨x,h1,h3,h2⟩|⟨x,h1,h3,h2⟩|⟨a,b,h1,h3,h4,h5,h2⟩
 ·rw[h2]at he;rw[qcH he]at hl;exact absurd hl (by decide)
 ·exact⟨h1,h2⟩
 all_goals (rw[h2]at he;rw[qcH he]at hl;exact absurd hl (by decide))
theorem qwY {m:Nat} {s:ByteArray} {i:Nat} {d:Int} (hl:lookB s i=102) (t0:K (m+1)) (post:List UInt8) (he:s.data.toList.drop i=txtK (m+1) t0++post) (hg:goodK (m+1) t0 d=true):t0=(⟨3,[],[]⟩:Kd (K m))/\txtK (m+1) t0=[102,108,97,103]:=by
 rcases qeF hg with ⟨h1,h2⟩|⟨h1,h2⟩|⟨h1,h2⟩|⟨x,h1,h3,h2⟩|⟨x,h1,h3,h2⟩|⟨a,b,h1,h3,h4,h5,h2⟩
 ·rw[h2]at he;rw[qcH he]at hl;exact absurd hl (by decide)
 ·rw[h2]at he;rw[qcH he]at hl;exact absurd hl (by decide)
 ·exact⟨h1,h2⟩
 all_goals (rw[h2]at he;rw[qcH he]at hl;exact absurd hl (by decide))
theorem xeA {m n:Nat} {s:ByteArray} {i i':Nat} {bad':Bool} {x:K m} (hl:lookB s i=63) (hp:GotK m n s (i+1) false x i' bad'):GotK (m+1) (n+1) s i false (⟨6,[],[x]⟩:Kd (K m)) i' bad':=by
 obtain⟨p1,p2,p3,p4,p5⟩:=hp
 refine⟨by omega,fun h=>⟨rfl,by omega,(p2 h).2.2⟩,fun _=>by have:=p3 rfl;omega,fun h=>(by cases h),fun t0 post _ he hg=>?_⟩
 rcases qeF hg with ⟨h1,h2⟩|⟨h1,h2⟩|⟨h1,h2⟩|⟨y,h1,h3,h2⟩|⟨y,h1,h3,h2⟩|⟨a,b,h1,h3,h4,h5,h2⟩
 case inr.inr.inr.inr.inl=>
  rw[h2]at he
  rw[qmR]at h3
  have aA:s.data.toList.drop (i+1)=txtK m y++post:=by rw[<- List.drop_drop,he];rfl
  obtain⟨q1,q2,q3⟩:=p5 y post rfl aA h3
  exact⟨by rw[h1,q1],q2,by rw[h2,q3,List.length_cons];omega⟩
 all_goals (rw[h2]at he;rw[qcH he]at hl;exact absurd hl (by decide))
theorem qqK {m n:Nat} {s:ByteArray} {i i1 i':Nat} {bad1 bad':Bool} {x:K m} (hl:lookB s i=91) (hp:GotK m n s (i+1) false x i1 bad1)
  (hs:(eatP [93] (s.data.toList.drop i1)=some (s.data.toList.drop (i1+1))/\i1+1<=s.size/\i'=i1+1/\bad'=bad1)∨((bad1=false->eatP [93] (s.data.toList.drop i1)=none)/\i'=i1/\bad'=true)):GotK (m+1) (n+1) s i false (⟨4,[],[x]⟩:Kd (K m)) i' bad':=by
 obtain⟨p1,p2,p3,p4,p5⟩:=hp
 have p3:=p3 rfl
 refine⟨?_,fun h=>⟨rfl,?_,?_⟩,fun _=>?_,fun h=>(by cases h),fun t0 post _ he hg=>?_⟩
 ·rcases hs with ⟨-,-,h,-⟩|⟨-,h,-⟩ <;> omega
 ·rcases hs with ⟨-,-,h,-⟩|⟨-,h,-⟩ <;> omega
 ·rcases hs with ⟨-,h',aB,-⟩|⟨-,-,h'⟩
  ·omega
  ·rw[h']at h;cases h
 ·rcases hs with ⟨-,-,h,-⟩|⟨-,h,-⟩ <;> omega
 rcases qeF hg with ⟨h1,h2⟩|⟨h1,h2⟩|⟨h1,h2⟩|⟨y,h1,h3,h2⟩|⟨y,h1,h3,h2⟩|⟨a,b,h1,h3,h4,h5,h2⟩
 case inr.inr.inr.inl=>
  rw[h2]at he
  rw[qmR]at h3
  have aA:s.data.toList.drop (i+1)=txtK m y++(93 :: post):=by rw[<- List.drop_drop,he];simp
  obtain⟨q1,q2,q3⟩:=p5 y _ rfl aA h3
  have hd:s.data.toList.drop i1=93 :: post:=by rw[q3,<- List.drop_drop,aA,List.drop_left]
  rcases hs with ⟨g1,g2,g3,g4⟩|⟨g1,-⟩
  ·exact⟨by rw[h1,q1],by rw[g4,q2],by rw[h2,g3,q3];simp;omega⟩
  ·have:=g1 q2
   rw[hd,qaE]at this
   cases this
 all_goals (rw[h2]at he;rw[qcH he]at hl;exact absurd hl (by decide))
theorem xgY {m n:Nat} {s:ByteArray} {i i':Nat} {bad':Bool} {ns:List ByteArray} {ks:List (K m)} (h1n:¬ lookB s i=110) (h2n:¬ lookB s i=116) (h3n:¬ lookB s i=102) (h4n:¬ lookB s i=63) (h5n:¬ lookB s i=91)
  (hI:qfT m n s i ns ks i' bad') (hend:bad'=false->lookB s i'=125):GotK (m+1) (n+1) s i false (⟨5,ns,ks⟩:Kd (K m)) (i'+1) bad':=by
 obtain⟨h1,h2,h3,h4,h6,h5⟩:=hI
 have aD:bad'=false->i'<s.size:=fun hb=>by
  have aA:=hend hb
  refine Classical.byContradiction fun hge=>?_
  rw[qbW s i' (by omega)]at aA
  exact absurd aA (by decide)
 refine⟨by omega,fun hb=>⟨rfl,by omega,aD hb⟩,fun _=>by omega,fun h=>(by cases h),fun t0 post _ he hg=>?_⟩
 rcases qeF hg with ⟨q1,q2⟩|⟨q1,q2⟩|⟨q1,q2⟩|⟨y,q1,q3,q2⟩|⟨y,q1,q3,q2⟩|⟨ns0,ks0,q1,q3,q4,q5,q2⟩
 case inr.inr.inr.inr.inr=>
  rw[q2]at he
  have aE:s.data.toList.drop i=123 :: (joinL (zipL ns0 (ks0.map (txtK m)))++125 :: post):=by rw[he];simp
  obtain⟨k,hk,aJ,aK,hb,hd⟩:=h5 ns0 ks0 post q3 q4 aE (fun k hk=>by have:=q5 k hk;rwa [qmR]at this)
  have aA:=hend hb
  have aI:(zipL ns0 (ks0.map (txtK m))).length=ks0.length:=by rw[qbP _ _ (by simpa using q3)];simp
  have aF:k=ks0.length:=by
   refine Classical.byContradiction fun hne=>?_
   have aG:k<ks0.length:=by omega
   have aB:k<(zipL ns0 (ks0.map (txtK m))).length:=by omega
   have aH:k<ns0.length:=by omega
   unfold lookB at aA
   rw[hd,List.drop_eq_getElem_cons aB,qsY _ _ _ aH (by simpa using aG) aB,tailL]at aA
   obtain⟨c,r,e,aC⟩:=qyZ (q4 ns0[k] (List.getElem_mem aH))
   by_cases hk0:k=0
   ·simp only[hk0,decide_true,if_true]at aA
    simp only[hk0]at e
    rw[e]at aA
    simp only[List.cons_append,List.headD_cons]at aA
    exact (nm_ne aC).2.1 aA
   ·simp only[hk0,decide_false,Bool.false_eq_true,if_false,List.cons_append,List.headD_cons]at aA
    exact absurd aA (by decide)
  refine⟨?_,hb,?_⟩
  ·rw[q1,aK,aJ,aF,List.take_length,<- q3,List.take_length]
  ·have aL:=(h2 hb).2
   have aG:=aD hb
   have e1:=congrArg List.length hd
   have e2:=congrArg List.length aE
   rw[aF,<- aI,List.drop_length]at e1
   rw[q2]
   simp[tailL]at e1 e2 ⊢
   omega
 ·rw[q2]at he;exact absurd (qcH he) h1n
 ·rw[q2]at he;exact absurd (qcH he) h2n
 ·rw[q2]at he;exact absurd (qcH he) h3n
 ·rw[q2]at he;exact absurd (qcH he) h5n
 ·rw[q2]at he;exact absurd (qcH he) h4n
theorem qoW {m n:Nat} {s:ByteArray} {i i':Nat} {bad':Bool} (hi:i<=s.size) (hs:(eatP [123] (s.data.toList.drop i)=some (s.data.toList.drop (i+1))/\i+1<=s.size/\i'=i+1/\bad'=false)∨(eatP [123] (s.data.toList.drop i)=none/\i'=i/\bad'=true)) :
  qfT m n s i [] [] i' bad':=by
 rcases hs with ⟨h1,h2,rfl,rfl⟩|⟨h1,rfl,rfl⟩
 ·refine⟨by omega,fun _=>⟨by omega,h2⟩,by omega,by simp,rfl,fun ns0 ks0 post hlen hnm he hg=>⟨0,Nat.zero_le _,by simp,by simp,rfl,?_⟩⟩
  rw[<- List.drop_drop,he];simp[qcV]
 ·refine⟨Nat.le_refl _,fun h=>(by cases h),by omega,by simp,rfl,fun ns0 ks0 post hlen hnm he hg=>?_⟩
  rw[he,qaE]at h1
  cases h1
end Go.Proofs.YtelogmjfekhmpaaGreatDoor
