import Derived.Test.YtelogmjfekhmpaaGreatDoorTRdL
namespace Go.Proofs.YtelogmjfekhmpaaGreatDoor
open Go.RowKit
def Colon (s:ByteArray) (j i3:Nat) (bad1 bad3:Bool):Prop:=
 (eatP [58] (s.data.toList.drop j)=some (s.data.toList.drop (j+1))/\j+1<=s.size/\i3=j+1/\bad3=bad1)∨(eatP [58] (s.data.toList.drop j)=none/\i3=j/\bad3=true)
def qlU (m n:Nat) (s:ByteArray) (i:Nat) (ns:List ByteArray) (ks:List (T m)) (i':Nat) (bad':Bool):Prop:=
 i<i' /\ (bad'=false->i'<=s.size)/\i'<=s.size+n/\ks.length<=i'+(if bad'=true then 1 else 0)/\ns.length=ks.length /\
  ∀ (ns0:List ByteArray) (ks0:List (T m)) post,ns0.length=ks0.length->(∀ x,x∈ns0->nameB x=true)->s.data.toList.drop (i+1)=joinL (zipL ns0 (ks0.map (txtL m)))++125 :: post->(∀ k,k∈ks0->goodT m k (7 - (n:Int))=true) ->
   ∃ k,k<=ks0.length/\ks=ks0.take k/\ns=ns0.take k/\bad'=false/\s.data.toList.drop i'=tailL (decide (k=0)) ((zipL ns0 (ks0.map (txtL m))).drop k)++125 :: post
theorem qrQ {x:ByteArray} (h:nameB x=true):∃ c r,x.data.toList=c :: r/\qaV c=true:=by
 have aA:1<=x.size:=by simp only[nameB,Bool.and_eq_true,decide_eq_true_eq]at h;exact h.1.1.1
 cases hd:x.data.toList with
 | nil=>
  have h1:x.data.toList.length=0:=by rw[hd];rfl
  have h2:x.data.toList.length=x.size:=by simp
  omega
 | cons c r=>exact⟨c,r,rfl,qeC h c (by rw[hd];exact List.mem_cons_self ..)⟩
theorem xaU {m n:Nat} {s:ByteArray} {i:Nat} {ns:List ByteArray} {ks:List (T m)} {i' i1 i3 i2:Nat} {bad1 bad3 bad2:Bool} {t2:T m} (hI:qlU m n s i ns ks i' false) (hne:¬ lookB s i'=125) (hc:Comma s ks.length i' i1 bad1)
  (hco:Colon s (i1+((s.data.toList.drop i1).takeWhile qaV).length) i3 bad1 bad3)
  (hp:i3<=i2/\(bad2=false->bad3=false/\i3<i2/\i2<=s.size)/\(bad3=false->i2<=s.size+n)/\(bad3=true->i2=i3) /\
   (∀ (t0:T m) post,bad3=false->s.data.toList.drop i3=txtL m t0++post->goodT m t0 (7 - (n:Int))=true->noDig post=true->t2=t0/\bad2=false/\i2=i3+(txtL m t0).length))
  (hsz:i1+((s.data.toList.drop i1).takeWhile qaV).length<=s.size) :
  qlU m n s i (ns++[bs ((s.data.toList.drop i1).takeWhile qaV)]) (ks++[t2]) i2 bad2/\(if bad2=true then 0 else s.size+1 - i2)<s.size+1 - i':=by
 obtain⟨h1,h2,h3,h4,h6,h5⟩:=hI
 obtain⟨p1,p2,p3,p4,p5⟩:=hp
 have h2:=h2 rfl
 have h4:ks.length<=i':=by simpa using h4
 have aM:i'<=i1:=by
  rcases hc with ⟨-,h,-⟩|⟨-,⟨-,-,h,-⟩|⟨-,h,-⟩⟩ <;> omega
 have aN:i1<=i3/\i3<=s.size:=by
  rcases hco with ⟨-,h,h',-⟩|⟨-,h,-⟩ <;> omega
 refine⟨⟨by omega,fun h=>(p2 h).2.2,?_,?_,by simp[h6],fun ns0 ks0 post hlen hnm he hg=>?_⟩,?_⟩
 ·cases bad3 with
  | false=>exact p3 rfl
  | true=>have:=p4 rfl;omega
 ·rw[List.length_append,List.length_singleton]
  cases bad2 with
  | false=>have:=(p2 rfl).2.1;simp;omega
  | true=>simp;omega
 ·obtain⟨k,hk,aI,aL,-,hd⟩:=h5 ns0 ks0 post hlen hnm he hg
  have aO:ks.length=k:=by rw[aI,List.length_take];omega
  have aP:(zipL ns0 (ks0.map (txtL m))).length=ks0.length:=by rw[qbP _ _ (by simpa using hlen)];simp
  have aE:k<ks0.length:=by
   refine Classical.byContradiction fun hge=>hne ?_
   have:(zipL ns0 (ks0.map (txtL m))).drop k=[]:=List.drop_of_length_le (by omega)
   rw[this]at hd
   unfold lookB
   rw[hd];rfl
  have aD:k<(zipL ns0 (ks0.map (txtL m))).length:=by omega
  have aF:k<ns0.length:=by omega
  rw[List.drop_eq_getElem_cons aD,qiJ _ _ _ aF (by simpa using aE) aD,List.getElem_map,tailL,List.append_assoc]at hd
  have aA:bad1=false/\s.data.toList.drop i1=ns0[k].data.toList++58 :: (txtL m ks0[k]++(tailL false ((zipL ns0 (ks0.map (txtL m))).drop (k+1))++125 :: post)):=by
   by_cases hk0:k=0
   ·simp only[hk0,decide_true,if_true,List.append_assoc,List.cons_append]at hd
    rcases hc with ⟨-,h,hb⟩|⟨h,-⟩
    ·refine⟨hb,?_⟩
     rw[h,hd]
     simp only[hk0]
    ·exact absurd (by omega) h
   ·simp only[hk0,decide_false,Bool.false_eq_true,if_false,List.cons_append,List.append_assoc]at hd
    rcases hc with ⟨h,-⟩|⟨-,⟨aB,-,h,hb⟩|⟨aB,-⟩⟩
    ·exact absurd (by omega) hk0
    ·refine⟨hb,?_⟩
     rw[hd,qaE]at aB
     rw[h]
     exact (Option.some.inj aB).symm
    ·rw[hd,qaE]at aB;cases aB
  have aJ:=hnm ns0[k] (List.getElem_mem aF)
  have aG:(s.data.toList.drop i1).takeWhile qaV=ns0[k].data.toList:=by
   rw[aA.2]
   exact qcT _ _ (qeC aJ) (by intro c r e;cases e;decide)
  have aH:s.data.toList.drop (i1+((s.data.toList.drop i1).takeWhile qaV).length)=58 :: (txtL m ks0[k]++(tailL false ((zipL ns0 (ks0.map (txtL m))).drop (k+1))++125 :: post)):=by
   rw[aG,<- List.drop_drop,aA.2,List.drop_left]
  have aC:bad3=false/\s.data.toList.drop i3=txtL m ks0[k]++(tailL false ((zipL ns0 (ks0.map (txtL m))).drop (k+1))++125 :: post):=by
   rcases hco with ⟨aB,-,h,hb⟩|⟨aB,-⟩
   ·rw[aH,qaE]at aB
    exact⟨by rw[hb];exact aA.1,by rw[h];exact (Option.some.inj aB).symm⟩
   ·rw[aH,qaE]at aB;cases aB
  have aK:noDig (tailL false ((zipL ns0 (ks0.map (txtL m))).drop (k+1))++125 :: post)=true:=by
   cases (zipL ns0 (ks0.map (txtL m))).drop (k+1) with
   | nil=>rfl
   | cons y r=>rw[qcM];rfl
  obtain⟨q1,q2,q3⟩:=p5 ks0[k] _ aC.1 aC.2 (hg _ (List.getElem_mem aE)) aK
  refine⟨k+1,by omega,?_,?_,q2,?_⟩
  ·rw[List.take_succ_eq_append_getElem aE,<- aI,q1]
  ·rw[List.take_succ_eq_append_getElem aF,<- aL,aG,bs_of]
  ·rw[q3,<- List.drop_drop,aC.2,List.drop_left]
   simp
 ·cases bad2 with
  | true=>simp;omega
  | false=>have:=(p2 rfl).2;simp;omega
end Go.Proofs.YtelogmjfekhmpaaGreatDoor
