import Derived.Test.YtelogmjfekhmpaaGreatDoorTRdF0
import Derived.Test.YtelogmjfekhmpaaGreatDoorRd2
import Derived.Test.YtelogmjfekhmpaaGreatDoorParse2
namespace Go.Proofs.YtelogmjfekhmpaaGreatDoor
open Go.RowKit
def GotT (m n:Nat) (s:ByteArray) (i:Nat) (bad:Bool) (t:T m) (i':Nat) (bad':Bool):Prop:=
 i<=i' /\ (bad'=false->bad=false/\i<i' /\ i'<=s.size)/\(bad=false->i'<=s.size+n)/\(bad=true->i'=i) /\
  (∀ (t0:T m) post,bad=false->s.data.toList.drop i=txtL m t0++post->goodT m t0 (7 - (n:Int))=true->noDig post=true->t=t0/\bad'=false/\i'=i+(txtL m t0).length)
theorem qbT {m:Nat} {t:T (m+1)} {d:Int} (h:goodT (m+1) t d=true) :
  (∃ k:Int,(-999999999<=k/\k<=999999999)/\t=(⟨1,k,ByteArray.empty,[],[]⟩:Nd (T m))/\txtL (m+1) t=Lib.itoa k) ∨
  (∃ x:ByteArray,textB x=true/\t=(⟨2,0,x,[],[]⟩:Nd (T m))/\txtL (m+1) t=34 :: (x.data.toList++[34])) ∨
  (t=(⟨3,1,ByteArray.empty,[],[]⟩:Nd (T m))/\txtL (m+1) t=[121,101,115])∨(t=(⟨3,0,ByteArray.empty,[],[]⟩:Nd (T m))/\txtL (m+1) t=[110,111]) ∨
  (∃ ks,t=(⟨4,0,ByteArray.empty,[],ks⟩:Nd (T m))/\(∀ k,k∈ks->goodT m k (d+1)=true)/\txtL (m+1) t=91 :: (joinL (ks.map (txtL m))++[93])) ∨
  (∃ ns ks,t=(⟨5,0,ByteArray.empty,ns,ks⟩:Nd (T m))/\ns.length=ks.length/\(∀ x,x∈ns->nameB x=true)/\(∀ k,k∈ks->goodT m k (d+1)=true)/\txtL (m+1) t=123 :: (joinL (zipL ns (ks.map (txtL m)))++[125])) ∨
  (t=(⟨6,0,ByteArray.empty,[],[]⟩:Nd (T m))/\txtL (m+1) t=[126]) ∨
  (∃ k,t=(⟨6,0,ByteArray.empty,[],[k]⟩:Nd (T m))/\goodT m k (d+1)=true/\txtL (m+1) t=63 :: txtL m k):=by
 simp only[goodT,Bool.and_eq_true]at h
 have ha:qiI (show Nd (T m) from t)=true:=h.1.2
 have hk:=List.all_eq_true.1 h.2
 obtain⟨so,nu,tx,na,ki⟩:Nd (T m):=t
 simp only[qiI]at ha hk
 unfold qaQ at ha
 have nil1:∀ l:List ByteArray,(l.length:Int)=0->l=[]:=fun l hl=>List.eq_nil_of_length_eq_zero (by omega)
 have nil2:∀ l:List (T m),(l.length:Int)=0->l=[]:=fun l hl=>List.eq_nil_of_length_eq_zero (by omega)
 by_cases h1:so=1
 ·rw[if_pos h1]at ha
  simp only[Bool.and_eq_true,beq_iff_eq,decide_eq_true_eq]at ha
  obtain⟨⟨⟨a1,a2⟩,a3⟩,a4⟩:=ha
  have e1:=qiN a2
  have e2:=nil1 _ a3
  have e3:=nil2 _ a4
  subst e1 e2 e3 h1
  exact .inl ⟨nu,a1,rfl,by simp[txtL]⟩
 rw[if_neg h1]at ha
 by_cases h2:so=2
 ·rw[if_pos h2]at ha
  simp only[Bool.and_eq_true,beq_iff_eq]at ha
  obtain⟨⟨⟨a1,a2⟩,a3⟩,a4⟩:=ha
  have e2:=nil1 _ a3
  have e3:=nil2 _ a4
  subst a1 e2 e3 h2
  exact .inr (.inl ⟨tx,a2,rfl,by simp[txtL]⟩)
 rw[if_neg h2]at ha
 by_cases h3:so=3
 ·rw[if_pos h3]at ha
  simp only[Bool.and_eq_true,beq_iff_eq,decide_eq_true_eq]at ha
  obtain⟨⟨⟨a1,a2⟩,a3⟩,a4⟩:=ha
  have e1:=qiN a2
  have e2:=nil1 _ a3
  have e3:=nil2 _ a4
  subst e1 e2 e3 h3
  by_cases hn:0<nu
  ·have:nu=1:=by omega
   subst this
   exact .inr (.inr (.inl ⟨rfl,by simp[txtL]⟩))
  ·have:nu=0:=by omega
   subst this
   exact .inr (.inr (.inr (.inl ⟨rfl,by simp[txtL]⟩)))
 rw[if_neg h3]at ha
 by_cases h4:so=4
 ·rw[if_pos h4]at ha
  simp only[Bool.and_eq_true,beq_iff_eq,decide_eq_true_eq]at ha
  obtain⟨⟨⟨a1,a2⟩,a3⟩,a4⟩:=ha
  have e1:=qiN a2
  have e2:=nil1 _ a3
  subst a1 e1 e2 h4
  exact .inr (.inr (.inr (.inr (.inl ⟨ki,rfl,fun k hk'=>hk k hk',by simp[txtL]⟩))))
 rw[if_neg h4]at ha
 by_cases h5:so=5
 ·rw[if_pos h5]at ha
  simp only[Bool.and_eq_true,beq_iff_eq]at ha
  obtain⟨⟨⟨a1,a2⟩,a3⟩,a4⟩:=ha
  have e1:=qiN a2
  subst a1 e1 h5
  exact .inr (.inr (.inr (.inr (.inr (.inl ⟨na,ki,rfl,by omega,qjW a4,fun k hk'=>hk k hk',by simp[txtL]⟩)))))
 rw[if_neg h5]at ha
 by_cases h6:so=6
 ·rw[if_pos h6]at ha
  simp only[Bool.and_eq_true,beq_iff_eq,decide_eq_true_eq]at ha
  obtain⟨⟨⟨a1,a2⟩,a3⟩,a4⟩:=ha
  have e1:=qiN a2
  have e2:=nil1 _ a3
  subst a1 e1 e2 h6
  match ki,a4,hk with
  | [],_,_=>exact .inr (.inr (.inr (.inr (.inr (.inr (.inl ⟨rfl,by simp[txtL,qfB]⟩))))))
  | [x],_,hk=>exact .inr (.inr (.inr (.inr (.inr (.inr (.inr ⟨x,rfl,hk x (List.mem_cons_self ..),by simp[txtL,qfB]⟩))))))
  | _ :: _ :: r,a4,_=>simp at a4;omega
 ·rw[if_neg h6]at ha;cases ha
theorem lookT {s:ByteArray} {i:Nat} {c:UInt8} {r:List UInt8} (h:s.data.toList.drop i=c :: r):lookB s i=c:=by
 unfold lookB;rw[h];rfl
theorem quF (n:Nat):(7 - ((n+1:Nat):Int))+1=7 - (n:Int):=by omega
theorem qdH {s:ByteArray} {i:Nat} {k:Int} {post:List UInt8} (h:s.data.toList.drop i=Lib.itoa k++post):digC (lookB s i)=true∨lookB s i=45:=by
 obtain⟨c,r,e,hc⟩:=qiM k
 rw[e]at h
 rw[lookT h];exact hc
theorem qhJ {m n:Nat} {s x:ByteArray} {i:Nat} {i':Nat} {bad':Bool} {t:T (m+1)} (hi:i<=s.size) (hs:(eatP x.data.toList (s.data.toList.drop i)=some (s.data.toList.drop (i+x.size))/\i+x.size<=s.size/\i'=i+x.size/\bad'=false)∨(eatP x.data.toList (s.data.toList.drop i)=none/\i'=i/\bad'=true))
  (hx:0<x.size) (hone:∀ (t0:T (m+1)) post,s.data.toList.drop i=txtL (m+1) t0++post->goodT (m+1) t0 (7 - ((n+1:Nat):Int))=true->t0=t/\txtL (m+1) t0=x.data.toList) :
  GotT (m+1) (n+1) s i false t i' bad':=by
 rcases hs with ⟨h1,h2,rfl,rfl⟩|⟨h1,rfl,rfl⟩
 ·refine⟨by omega,fun _=>⟨rfl,by omega,h2⟩,fun _=>by omega,fun h=>(by cases h),fun t0 post _ he hg _=>?_⟩
  obtain⟨q1,q2⟩:=hone t0 post he hg
  exact⟨q1.symm,rfl,by rw[q2];simp⟩
 ·refine⟨Nat.le_refl _,fun h=>(by cases h),fun _=>by omega,fun h=>(by cases h),fun t0 post _ he hg _=>?_⟩
  obtain⟨q1,q2⟩:=hone t0 post he hg
  rw[he,q2,qdK]at h1
  cases h1
theorem xaV {m:Nat} {s:ByteArray} {i:Nat} {d:Int} (hl:lookB s i=121) (t0:T (m+1)) (post:List UInt8) (he:s.data.toList.drop i=txtL (m+1) t0++post) (hg:goodT (m+1) t0 d=true):t0=(⟨3,1,ByteArray.empty,[],[]⟩:Nd (T m))/\txtL (m+1) t0=[121,101,115]:=by
 rcases qbT hg with ⟨k,-,h1,h2⟩|⟨x,-,h1,h2⟩|⟨h1,h2⟩|⟨h1,h2⟩|⟨ks,h1,-,h2⟩|⟨ns,ks,h1,-,-,-,h2⟩|⟨h1,h2⟩|⟨k,h1,-,h2⟩
 ·rw[h2]at he;have:=qdH he;rw[hl]at this;exact absurd this (by decide)
 ·rw[h2]at he;rw[lookT he]at hl;exact absurd hl (by decide)
 ·exact⟨h1,h2⟩
 all_goals (rw[h2]at he;rw[lookT he]at hl;exact absurd hl (by decide))
theorem xhW {m:Nat} {s:ByteArray} {i:Nat} {d:Int} (hl:lookB s i=110) (t0:T (m+1)) (post:List UInt8) (he:s.data.toList.drop i=txtL (m+1) t0++post) (hg:goodT (m+1) t0 d=true):t0=(⟨3,0,ByteArray.empty,[],[]⟩:Nd (T m))/\txtL (m+1) t0=[110,111]:=by
 rcases qbT hg with ⟨k,-,h1,h2⟩|⟨x,-,h1,h2⟩|⟨h1,h2⟩|⟨h1,h2⟩|⟨ks,h1,-,h2⟩|⟨ns,ks,h1,-,-,-,h2⟩|⟨h1,h2⟩|⟨k,h1,-,h2⟩
 ·rw[h2]at he;have:=qdH he;rw[hl]at this;exact absurd this (by decide)
 ·rw[h2]at he;rw[lookT he]at hl;exact absurd hl (by decide)
 ·rw[h2]at he;rw[lookT he]at hl;exact absurd hl (by decide)
 ·exact⟨h1,h2⟩
 all_goals (rw[h2]at he;rw[lookT he]at hl;exact absurd hl (by decide))
theorem qwF {m:Nat} {s:ByteArray} {i:Nat} {d:Int} (hl:lookB s i=126) (t0:T (m+1)) (post:List UInt8) (he:s.data.toList.drop i=txtL (m+1) t0++post) (hg:goodT (m+1) t0 d=true):t0=(⟨6,0,ByteArray.empty,[],[]⟩:Nd (T m))/\txtL (m+1) t0=[126]:=by
 rcases qbT hg with ⟨k,-,h1,h2⟩|⟨x,-,h1,h2⟩|⟨h1,h2⟩|⟨h1,h2⟩|⟨ks,h1,-,h2⟩|⟨ns,ks,h1,-,-,-,h2⟩|⟨h1,h2⟩|⟨k,h1,-,h2⟩
 ·rw[h2]at he;have:=qdH he;rw[hl]at this;exact absurd this (by decide)
 case inr.inr.inr.inr.inr.inr.inl=>exact⟨h1,h2⟩
 all_goals (rw[h2]at he;rw[lookT he]at hl;exact absurd hl (by decide))
theorem xfS {m n:Nat} {s:ByteArray} {i i':Nat} {bad':Bool} {x:T m} (hl:lookB s i=63) (hp:GotT m n s (i+1) false x i' bad'):GotT (m+1) (n+1) s i false (⟨6,0,ByteArray.empty,[],[x]⟩:Nd (T m)) i' bad':=by
 obtain⟨p1,p2,p3,p4,p5⟩:=hp
 refine⟨by omega,fun h=>⟨rfl,by omega,(p2 h).2.2⟩,fun _=>by have:=p3 rfl;omega,fun h=>(by cases h),fun t0 post _ he hg hnd=>?_⟩
 rcases qbT hg with ⟨k,-,h1,h2⟩|⟨x,-,h1,h2⟩|⟨h1,h2⟩|⟨h1,h2⟩|⟨ks,h1,-,h2⟩|⟨ns,ks,h1,-,-,-,h2⟩|⟨h1,h2⟩|⟨y,h1,h3,h2⟩
 ·rw[h2]at he;have:=qdH he;rw[hl]at this;exact absurd this (by decide)
 case inr.inr.inr.inr.inr.inr.inr=>
  rw[h2]at he
  rw[quF]at h3
  have aA:s.data.toList.drop (i+1)=txtL m y++post:=by rw[<- List.drop_drop,he];rfl
  obtain⟨q1,q2,q3⟩:=p5 y post rfl aA h3 hnd
  exact⟨by rw[h1,q1],q2,by rw[h2,q3,List.length_cons];omega⟩
 all_goals (rw[h2]at he;rw[lookT he]at hl;exact absurd hl (by decide))
theorem qxO {m n:Nat} {s:ByteArray} {i:Nat} {x r:List UInt8} (hl:lookB s i=34) (hu:qbS 34 (s.data.toList.drop (i+1))=some (x,r)) (hsz:i+1+x.length+1<=s.size) :
  GotT (m+1) (n+1) s i false (⟨2,0,bs x,[],[]⟩:Nd (T m)) (i+1+x.length+1) false:=by
 refine⟨by omega,fun _=>⟨rfl,by omega,hsz⟩,fun _=>by omega,fun h=>(by cases h),fun t0 post _ he hg _=>?_⟩
 rcases qbT hg with ⟨k,-,h1,h2⟩|⟨y,h3,h1,h2⟩|⟨h1,h2⟩|⟨h1,h2⟩|⟨ks,h1,-,h2⟩|⟨ns,ks,h1,-,-,-,h2⟩|⟨h1,h2⟩|⟨y,h1,h3,h2⟩
 ·rw[h2]at he;have:=qdH he;rw[hl]at this;exact absurd this (by decide)
 ·rw[h2]at he
  have aB:s.data.toList.drop (i+1)=y.data.toList++34 :: post:=by rw[<- List.drop_drop,he];simp
  rw[aB,qcU 34 _ _ (qhY h3)]at hu
  have aA:y.data.toList=x:=(Prod.mk.inj (Option.some.inj hu)).1
  refine⟨by rw[h1,<- aA,bs_of],rfl,?_⟩
  rw[h2,<- aA];simp;omega
 all_goals (rw[h2]at he;rw[lookT he]at hl;exact absurd hl (by decide))
theorem qxP {m n:Nat} {s:ByteArray} {i:Nat} {t:T (m+1)} (hl:lookB s i=34) (hi:i<=s.size) (hu:qbS 34 (s.data.toList.drop (i+1))=none):GotT (m+1) (n+1) s i false t s.size true:=by
 refine⟨hi,fun h=>(by cases h),fun _=>by omega,fun h=>(by cases h),fun t0 post _ he hg _=>?_⟩
 rcases qbT hg with ⟨k,-,h1,h2⟩|⟨y,h3,h1,h2⟩|⟨h1,h2⟩|⟨h1,h2⟩|⟨ks,h1,-,h2⟩|⟨ns,ks,h1,-,-,-,h2⟩|⟨h1,h2⟩|⟨y,h1,h3,h2⟩
 ·rw[h2]at he;have:=qdH he;rw[hl]at this;exact absurd this (by decide)
 ·rw[h2]at he
  have aA:s.data.toList.drop (i+1)=y.data.toList++34 :: post:=by rw[<- List.drop_drop,he];simp
  rw[aA,qcU 34 _ _ (qhY h3)]at hu
  cases hu
 all_goals (rw[h2]at he;rw[lookT he]at hl;exact absurd hl (by decide))
theorem xaW {m n:Nat} {s:ByteArray} {i i':Nat} {bad':Bool} {ks:List (T m)} (hl:lookB s i=91) (h1:i<i') (h2:bad'=false->i'<=s.size) (h3:i'<=s.size+n+1)
  (h4:∀ (ks0:List (T m)) post,s.data.toList.drop (i+1)=joinL (ks0.map (txtL m))++93 :: post->(∀ k,k∈ks0->goodT m k (7 - (n:Int))=true)->ks=ks0/\bad'=false/\i'=i+(joinL (ks0.map (txtL m))).length+2) :
  GotT (m+1) (n+1) s i false (⟨4,0,ByteArray.empty,[],ks⟩:Nd (T m)) i' bad':=by
 refine⟨by omega,fun h=>⟨rfl,h1,h2 h⟩,fun _=>by omega,fun h=>(by cases h),fun t0 post _ he hg _=>?_⟩
 rcases qbT hg with ⟨k,-,q1,q2⟩|⟨y,q3,q1,q2⟩|⟨q1,q2⟩|⟨q1,q2⟩|⟨ks0,q1,q3,q2⟩|⟨ns,ks,q1,-,-,-,q2⟩|⟨q1,q2⟩|⟨y,q1,q3,q2⟩
 ·rw[q2]at he;have:=qdH he;rw[hl]at this;exact absurd this (by decide)
 case inr.inr.inr.inr.inl=>
  rw[q2]at he
  have aA:s.data.toList.drop (i+1)=joinL (ks0.map (txtL m))++93 :: post:=by rw[<- List.drop_drop,he];simp
  obtain⟨r1,r2,r3⟩:=h4 ks0 post aA (fun k hk=>by have:=q3 k hk;rwa [quF]at this)
  exact⟨by rw[q1,r1],r2,by rw[r3,q2];simp;omega⟩
 all_goals (rw[q2]at he;rw[lookT he]at hl;exact absurd hl (by decide))
theorem xaX {m n:Nat} {s:ByteArray} {i i':Nat} {bad':Bool} {ns:List ByteArray} {ks:List (T m)} (hl:lookB s i=123) (h1:i<i') (h2:bad'=false->i'<=s.size) (h3:i'<=s.size+n+1)
  (h4:∀ (ns0:List ByteArray) (ks0:List (T m)) post,ns0.length=ks0.length->(∀ x,x∈ns0->nameB x=true)->s.data.toList.drop (i+1)=joinL (zipL ns0 (ks0.map (txtL m)))++125 :: post->(∀ k,k∈ks0->goodT m k (7 - (n:Int))=true) ->
   ns=ns0/\ks=ks0/\bad'=false/\i'=i+(joinL (zipL ns0 (ks0.map (txtL m)))).length+2) :
  GotT (m+1) (n+1) s i false (⟨5,0,ByteArray.empty,ns,ks⟩:Nd (T m)) i' bad':=by
 refine⟨by omega,fun h=>⟨rfl,h1,h2 h⟩,fun _=>by omega,fun h=>(by cases h),fun t0 post _ he hg _=>?_⟩
 rcases qbT hg with ⟨k,-,q1,q2⟩|⟨y,q3,q1,q2⟩|⟨q1,q2⟩|⟨q1,q2⟩|⟨ks0,q1,q3,q2⟩|⟨ns0,ks0,q1,q3,q4,q5,q2⟩|⟨q1,q2⟩|⟨y,q1,q3,q2⟩
 ·rw[q2]at he;have:=qdH he;rw[hl]at this;exact absurd this (by decide)
 case inr.inr.inr.inr.inr.inl=>
  rw[q2]at he
  have aA:s.data.toList.drop (i+1)=joinL (zipL ns0 (ks0.map (txtL m)))++125 :: post:=by rw[<- List.drop_drop,he];simp
  obtain⟨r0,r1,r2,r3⟩:=h4 ns0 ks0 post q3 q4 aA (fun k hk=>by have:=q5 k hk;rwa [quF]at this)
  exact⟨by rw[q1,r0,r1],r2,by rw[r3,q2];simp;omega⟩
 all_goals (rw[q2]at he;rw[lookT he]at hl;exact absurd hl (by decide))
theorem xfT {m n:Nat} {s:ByteArray} {i k F:Nat} {neg:Bool} {v:Int} (h1:¬ lookB s i=34) (h2:¬ lookB s i=121) (h3:¬ lookB s i=110) (h4:¬ lookB s i=126) (h5:¬ lookB s i=63) (h6:¬ lookB s i=91) (h7:¬ lookB s i=123)
  (hneg:neg=decide (lookB s i=45)) (hF:F=if neg=true then i+1 else i) (hsz:F+k<=s.size) (hall:∀ c,c∈(s.data.toList.drop F).take k->digC c=true) (hend:k=10∨digC (lookB s (F+k))=false)
  (hv:v=if neg=true then -(qcE ((s.data.toList.drop F).take k):Int) else (qcE ((s.data.toList.drop F).take k):Int)) :
  GotT (m+1) (n+1) s i false (⟨1,v,ByteArray.empty,[],[]⟩:Nd (T m)) (F+k) (false || k==0):=by
 have aA:i<=F:=by cases neg <;> simp at hF <;> omega
 refine⟨by omega,fun h=>⟨rfl,?_,hsz⟩,fun _=>by omega,fun h=>(by cases h),fun t0 post _ he hg hnd=>?_⟩
 ·simp at h;omega
 rcases qbT hg with ⟨q,q0,q1,q2⟩|⟨y,q3,q1,q2⟩|⟨q1,q2⟩|⟨q1,q2⟩|⟨ks0,q1,q3,q2⟩|⟨ns0,ks0,q1,q3,q4,q5,q2⟩|⟨q1,q2⟩|⟨y,q1,q3,q2⟩
 ·rw[q2]at he
  obtain⟨r1,r2,r3⟩:=xaR s i k F neg q post q0 he hnd hneg hF hsz hall hend
  exact⟨by rw[q1,hv,r1],by simpa using r3,by rw[q2];exact r2⟩
 ·rw[q2]at he;exact absurd (lookT he) h1
 ·rw[q2]at he;exact absurd (lookT he) h2
 ·rw[q2]at he;exact absurd (lookT he) h3
 ·rw[q2]at he;exact absurd (lookT he) h6
 ·rw[q2]at he;exact absurd (lookT he) h7
 ·rw[q2]at he;exact absurd (lookT he) h4
 ·rw[q2]at he;exact absurd (lookT he) h5
end Go.Proofs.YtelogmjfekhmpaaGreatDoor
