import Derived.Test.YtelogmjfekhmpaaGreatDoorB2
import Derived.Test.YtelogmjfekhmpaaGreatDoorB1
import Derived.WalkSmall
import Derived.LoopTactic
namespace Go.Proofs.YtelogmjfekhmpaaGreatDoor
open Go.RowKit Go.Proofs.Tryz
set_option maxRecDepth 100000
set_option maxHeartbeats 16000000
theorem qxM(s:ByteArray)(j:Nat):qaT (lookB s j)=true->j<s.size:=by
 intro h
 exact Classical.byContradiction fun hn=>by rw[qbU s j (by omega)]at h;exact absurd h (by decide)
theorem qfU(l:List UInt8)(p:UInt8->Bool)(k:Nat)(h:∀x,x∈l.take k->p x=true)(hd:p ((l.drop k).headD 0)=false):l.takeWhile p=l.take k:=by
 have a:∀c r,l.drop k=c :: r->p c=false:=by intro c r e;rw[e]at hd;exact hd
 conv=>lhs;rw[<- List.take_append_drop k l]
 exact qcR _ _ h a
theorem qhG(s:ByteArray)(i k:Nat)(p:UInt8->Bool)(h:i+k<s.size)(ha:∀x,x∈(s.data.toList.drop i).take k->p x=true)(hc:p s[i+k]=true):∀x,x∈(s.data.toList.drop i).take (k+1)->p x=true:=by
 intro x a
 have b:k<(s.data.toList.drop i).length:=by simp;omega
 rw[List.take_succ_eq_append_getElem b]at a
 rcases List.mem_append.1 a with a|a
 ·exact ha x a
 ·rw[List.mem_singleton]at a
  subst a
  simpa [ByteArray.getElem_eq_getElem_data] using hc
theorem qwA (w:World) (R:Nat) (s:ByteArray) (i:Nat) (bad:Bool) (h:RdS w R s i bad) (hs:s.size<=10000) (hi:i<=s.size) :
  Calls prog 58 #[.pointer (some ⟨R,0,none⟩)] w fun e w'=>e=.returned (.string (bs ((s.data.toList.drop i).takeWhile qaT)))/\Near R w w' /\
   RdS w' R s ((i+((s.data.toList.drop i).takeWhile qaT).length:Nat):Int) bad/\i+((s.data.toList.drop i).takeWhile qaT).length<=s.size:=by
 have c0:=h.cell0
 have c1:=h.cell1
 have c2:=h.cell2
 go_enter func58,ntmps58
 go_wp2_with fail
 go_loopw [9] (fun _ wr=>∃k:Nat,i+k<=s.size/\RdS wr R s ((i+k:Nat):Int) bad/\Near R w wr/\∀x,x∈(s.data.toList.drop i).take k->qaT x=true) (fun _ wr=>s.size-atOf wr R)
 case atStart=>exact⟨0,by omega,h,Near.refl _ _,by simp⟩
 case round=>
  obtain⟨k,r,g,n,b⟩:=hrel
  have C:=g.cell0
  have D:=g.cell1
  have E:=g.cell2
  have F:=g.free 1
  have d:Hid (RdS wr R s ((i+k:Nat):Int) bad/\Near R w wr):=⟨g,n⟩
  clear g n c0 c1 c2 h
  generalize hj:i+k=j at *
  have o:Hid (∀m,Calls prog 56 #[.pointer (some ⟨R,0,none⟩)] (wr.drewN m) fun e w'=>e=.returned (.int .u8 ((lookB s j).toNat:Int))/\∃m',w'=wr.drewN m'):=fun m=>
   (qeS (wr.drewN m) R s j bad (d.out.1.drewN m)).mono fun e w' ⟨he,k,r⟩=>⟨he,m+k,by rw[r,World.drewN_drewN]⟩
  have f:Hid (Calls prog 56 #[.pointer (some ⟨R,0,none⟩)] wr fun e w'=>e=.returned (.int .u8 ((lookB s j).toNat:Int))/\∃m',w'=wr.drewN m'):=o.out 0
  have v:(0:Int)<=((lookB s j).toNat:Int):=by omega
  have y:((lookB s j).toNat:Int)<=255:=by have:=(lookB s j).toNat_lt;omega
  cases hnm:qaT (lookB s j) with
  | true=>
   have q:=qxM s j hnm
   have t:Hid (∀x,x∈(s.data.toList.drop i).take (k+1)->qaT x=true):=qhG s i k qaT (by omega) b (by rw[qeR s j q]at hnm;simpa only[hj] using hnm)
   have G:IntKind.i64.wrap ((j:Int)+1)=(j:Int)+1:=by rw[IntKind.wrap_i64];omega
   have a:(97<=((lookB s j).toNat:Int)/\((lookB s j).toNat:Int)<=122)∨(48<=((lookB s j).toNat:Int)/\((lookB s j).toNat:Int)<=57):=by simpa only[qaT,decide_eq_true_eq] using hnm
   clear b hnm
   generalize (lookB s j).toNat=c at *
   rcases a with ⟨p,u⟩|⟨p,u⟩
   ·go_wp2_with (go_at_call 56;(first|refine f.out.mono ?_|refine (o.out _).mono ?_);rintro e w' ⟨rfl,nq,rfl⟩)
    have l:=fun nq=>((d.out.1.drewN nq).set1 ((j:Int)+1))
    go_roundw
    case rel=>exact⟨k+1,by omega,by rw[show ((i+(k+1):Nat):Int)=(j:Int)+1 by omega];exact l _,(d.out.2.drewN _).trans (Near.set R 1 _ _),t.out⟩
    case measure=>rw[(l _).atOf,d.out.1.atOf];omega
   ·go_wp2_with (go_at_call 56;(first|refine f.out.mono ?_|refine (o.out _).mono ?_);rintro e w' ⟨rfl,nq,rfl⟩)
    have l:=fun nq=>((d.out.1.drewN nq).set1 ((j:Int)+1))
    go_roundw
    case rel=>exact⟨k+1,by omega,by rw[show ((i+(k+1):Nat):Int)=(j:Int)+1 by omega];exact l _,(d.out.2.drewN _).trans (Near.set R 1 _ _),t.out⟩
    case measure=>rw[(l _).atOf,d.out.1.atOf];omega
  | false=>
   have z:Hid ((s.data.toList.drop i).takeWhile qaT=(s.data.toList.drop i).take k):=qfU _ _ _ b (by rw[List.drop_drop,hj];exact hnm)
   have A:Hid (s.extract i j=bs ((s.data.toList.drop i).take k)):=by show _=_;rw[<- hj];exact qfX s i k
   have B:Hid (((s.data.toList.drop i).take k).length=k):=by show _=_;simp;omega
   have a:((lookB s j).toNat:Int)<48∨(57<((lookB s j).toNat:Int)/\((lookB s j).toNat:Int)<97)∨122<((lookB s j).toNat:Int):=by
    simp only[qaT,decide_eq_false_iff_not]at hnm;omega
   clear b hnm
   generalize (lookB s j).toNat=c at *
   rcases a with p|⟨p,u⟩|p
   all_goals
    go_wp2_with (go_at_call 56;(first|refine f.out.mono ?_|refine (o.out _).mono ?_);rintro e w' ⟨rfl,nq,rfl⟩)
    go_quiet (fail)
    go_wp2_with fail
    go_ret
    rw[z.out,B.out,hj]
    exact⟨qdU A.out,(d.out.2.drewN _).drewN _,(d.out.1.drewN _).drewN _,r⟩
def qwW(s:ByteArray)(L i' i1:Nat)(bad1:Bool):Prop:=
 (L=0/\i1=i' /\ bad1=false)∨(¬L=0/\((eatP [44] (s.data.toList.drop i')=some (s.data.toList.drop (i'+1))/\i'+1<=s.size/\i1=i'+1/\bad1=false)∨(eatP [44] (s.data.toList.drop i')=none/\i1=i' /\ bad1=true)))
def xiB(s:ByteArray)(j i3:Nat)(bad1 bad3:Bool):Prop:=
 (eatP [58] (s.data.toList.drop j)=some (s.data.toList.drop (j+1))/\j+1<=s.size/\i3=j+1/\bad3=bad1)∨(eatP [58] (s.data.toList.drop j)=none/\i3=j/\bad3=true)
def GotK(m n:Nat)(s:ByteArray)(i:Nat)(bad:Bool)(t:K m)(i':Nat)(bad':Bool):Prop:=
 i<=i' /\ (bad'=false->bad=false/\i<i' /\ i'<=s.size)/\(bad=false->i'<=s.size+n)/\(bad=true->i'=i) /\
  (∀(t0:K m) post,bad=false->s.data.toList.drop i=txtK m t0++post->goodK m t0 (7-(n:Int))=true->t=t0/\bad'=false/\i'=i+(txtK m t0).length)
def qfR(m n:Nat)(s:ByteArray)(i:Nat)(ns:List ByteArray)(ks:List (K m))(i':Nat)(bad':Bool):Prop:=
 i<=i' /\ (bad'=false->i<i' /\ i'<=s.size)/\i'<=s.size+n/\ks.length<=i'+(if bad'=true then 1 else 0)/\ns.length=ks.length /\
  ∀(ns0:List ByteArray)(ks0:List (K m)) post,ns0.length=ks0.length->(∀x,x∈ns0->nameB x=true)->s.data.toList.drop i=123 :: (joinL (zipL ns0 (ks0.map (txtK m)))++125 :: post)->(∀k,k∈ks0->goodK m k (7-(n:Int))=true) ->
   ∃k,k<=ks0.length/\ks=ks0.take k/\ns=ns0.take k/\bad'=false/\s.data.toList.drop i'=tailL (decide (k=0)) ((zipL ns0 (ks0.map (txtK m))).drop k)++125 :: post
theorem qyZ{x:ByteArray}(h:nameB x=true):∃c r,x.data.toList=c :: r/\qaT c=true:=by
 have a:1<=x.size:=by simp only[nameB,Bool.and_eq_true,decide_eq_true_eq]at h;exact h.1.1.1
 cases hd:x.data.toList with
 | nil=>
  have b:x.data.toList.length=0:=by rw[hd];rfl
  have d:x.data.toList.length=x.size:=by simp
  omega
 | cons c r=>exact⟨c,r,rfl,qdZ h c (by rw[hd];exact List.mem_cons_self ..)⟩
theorem qsY(a:List ByteArray)(l:List (List UInt8))(k:Nat)(ha:k<a.length)(hl:k<l.length)(h:k<(zipL a l).length):(zipL a l)[k]=a[k].data.toList++58 :: l[k]:=by
 induction a generalizing l k with
 | nil=>simp at ha
 | cons x r ih=>
  cases l with
  | nil=>simp at hl
  | cons y t=>
   cases k with
   | zero=>rfl
   | succ k=>simpa [zipL] using ih t k (by simpa using ha) (by simpa using hl) (by simpa [zipL] using h)
theorem qzA {m n:Nat} {s:ByteArray} {i:Nat} {ns:List ByteArray} {ks:List (K m)} {i' i1 i3 i2:Nat} {bad1 bad3 bad2:Bool} {t2:K m} (hI:qfR m n s i ns ks i' false) (hne:¬ lookB s i'=125) (hc:qwW s ks.length i' i1 bad1)
  (hco:xiB s (i1+((s.data.toList.drop i1).takeWhile qaT).length) i3 bad1 bad3) (hp:GotK m n s i3 bad3 t2 i2 bad2)
  (hsz:i1+((s.data.toList.drop i1).takeWhile qaT).length<=s.size) :
  qfR m n s i (ns++[bs ((s.data.toList.drop i1).takeWhile qaT)]) (ks++[t2]) i2 bad2/\(if bad2=true then 0 else s.size+1-i2)<s.size+1-i':=by
 obtain⟨M,x,N,y,D,E⟩:=hI
 obtain⟨O,v,F,G,H⟩:=hp
 have x:=x rfl
 have y:ks.length<=i':=by simpa using y
 have z:i'<=i1:=by
  rcases hc with ⟨-,h,-⟩|⟨-,⟨-,-,h,-⟩|⟨-,h,-⟩⟩<;>omega
 have A:i1<=i3/\i3<=s.size:=by
  rcases hco with ⟨-,h,P,-⟩|⟨-,h,-⟩<;>omega
 refine⟨⟨by omega,fun h=>⟨by omega,(v h).2.2⟩,?_,?_,by simp[D],fun ns0 ks0 post hlen hnm he hg=>?_⟩,?_⟩
 ·cases bad3 with
  | false=>exact F rfl
  | true=>have:=G rfl;omega
 ·rw[List.length_append,List.length_singleton]
  cases bad2 with
  | false=>have:=(v rfl).2.1;simp;omega
  | true=>simp;omega
 ·obtain⟨k,Q,q,w,-,g⟩:=E ns0 ks0 post hlen hnm he hg
  have B:ks.length=k:=by rw[q,List.length_take];omega
  have C:(zipL ns0 (ks0.map (txtK m))).length=ks0.length:=by rw[qbN _ _ (by simpa using hlen)];simp
  have j:k<ks0.length:=by
   refine Classical.byContradiction fun hge=>hne ?_
   have:(zipL ns0 (ks0.map (txtK m))).drop k=[]:=List.drop_of_length_le (by omega)
   rw[this]at g
   unfold lookB
   rw[g];rfl
  have f:k<(zipL ns0 (ks0.map (txtK m))).length:=by omega
  have l:k<ns0.length:=by omega
  rw[List.drop_eq_getElem_cons f,qsY _ _ _ l (by simpa using j) f,List.getElem_map,tailL,List.append_assoc]at g
  have b:bad1=false/\s.data.toList.drop i1=ns0[k].data.toList++58 :: (txtK m ks0[k]++(tailL false ((zipL ns0 (ks0.map (txtK m))).drop (k+1))++125 :: post)):=by
   by_cases hk0:k=0
   ·simp only[hk0,decide_true,if_true,List.append_assoc,List.cons_append]at g
    rcases hc with ⟨-,h,t⟩|⟨h,-⟩
    ·refine⟨t,?_⟩
     rw[h,g]
     simp only[hk0]
    ·exact absurd (by omega) h
   ·simp only[hk0,decide_false,Bool.false_eq_true,if_false,List.cons_append,List.append_assoc]at g
    rcases hc with ⟨h,-⟩|⟨-,⟨a,-,h,t⟩|⟨a,-⟩⟩
    ·exact absurd (by omega) hk0
    ·refine⟨t,?_⟩
     rw[g,qaE]at a
     rw[h]
     exact (Option.some.inj a).symm
    ·rw[g,qaE]at a;cases a
  have u:=hnm ns0[k] (List.getElem_mem l)
  have o:(s.data.toList.drop i1).takeWhile qaT=ns0[k].data.toList:=by
   rw[b.2]
   exact qcR _ _ (qdZ u) (by intro c r e;cases e;decide)
  have p:s.data.toList.drop (i1+((s.data.toList.drop i1).takeWhile qaT).length)=58 :: (txtK m ks0[k]++(tailL false ((zipL ns0 (ks0.map (txtK m))).drop (k+1))++125 :: post)):=by
   rw[o,<- List.drop_drop,b.2,List.drop_left]
  have d:bad3=false/\s.data.toList.drop i3=txtK m ks0[k]++(tailL false ((zipL ns0 (ks0.map (txtK m))).drop (k+1))++125 :: post):=by
   rcases hco with ⟨a,-,h,t⟩|⟨a,-⟩
   ·rw[p,qaE]at a
    exact⟨by rw[t];exact b.1,by rw[h];exact (Option.some.inj a).symm⟩
   ·rw[p,qaE]at a;cases a
  obtain⟨I,J,L⟩:=H ks0[k] _ d.1 d.2 (hg _ (List.getElem_mem j))
  refine⟨k+1,by omega,?_,?_,J,?_⟩
  ·rw[List.take_succ_eq_append_getElem j,<- q,I]
  ·rw[List.take_succ_eq_append_getElem l,<- w,o,bs_of]
  ·rw[L,<- List.drop_drop,d.2,List.drop_left]
   simp
 ·cases bad2 with
  | true=>simp;omega
  | false=>have:=(v rfl).2;simp;omega
theorem qeC {m:Nat} {t:K (m+1)} {d:Int} (h:goodK (m+1) t d=true) :
  (t=(⟨1,[],[]⟩:Kd (K m))/\txtK (m+1) t=[110,117,109])∨(t=(⟨2,[],[]⟩:Kd (K m))/\txtK (m+1) t=[116,101,120,116])∨(t=(⟨3,[],[]⟩:Kd (K m))/\txtK (m+1) t=[102,108,97,103]) ∨
  (∃x,t=(⟨4,[],[x]⟩:Kd (K m))/\goodK m x (d+1)=true/\txtK (m+1) t=91 :: (txtK m x++[93]))∨(∃x,t=(⟨6,[],[x]⟩:Kd (K m))/\goodK m x (d+1)=true/\txtK (m+1) t=63 :: txtK m x) ∨
  (∃na ki,t=(⟨5,na,ki⟩:Kd (K m))/\na.length=ki.length/\(∀x,x∈na->nameB x=true)/\(∀k,k∈ki->goodK m k (d+1)=true)/\txtK (m+1) t=123 :: (joinL (zipL na (ki.map (txtK m)))++[125])):=by
 simp only[goodK,Bool.and_eq_true]at h
 have b:qbJ (Kd.sort t) (Kd.names t) (Kd.kids t).length=true:=h.1.2
 have g:=List.all_eq_true.1 h.2
 obtain⟨f,na,ki⟩:Kd (K m):=t
 simp only at b g
 unfold qbJ at b
 have one:(ki.length:Int)=1->∃x,ki=[x]/\goodK m x (d+1)=true:=by
  intro i
  match ki,i,g with
  | [x],_,g=>exact⟨x,rfl,g x (List.mem_cons_self ..)⟩
 by_cases h1:f=1
 ·rw[if_pos h1]at b
  simp only[Bool.and_eq_true,beq_iff_eq]at b
  have c:na=[]:=List.eq_nil_of_length_eq_zero (by have:=b.1;omega)
  have e:ki=[]:=List.eq_nil_of_length_eq_zero (by have:=b.2;omega)
  subst c e h1
  exact .inl ⟨rfl,by simp[txtK]⟩
 rw[if_neg h1]at b
 by_cases h2:f=2
 ·rw[if_pos h2]at b
  simp only[Bool.and_eq_true,beq_iff_eq]at b
  have c:na=[]:=List.eq_nil_of_length_eq_zero (by have:=b.1;omega)
  have e:ki=[]:=List.eq_nil_of_length_eq_zero (by have:=b.2;omega)
  subst c e h2
  exact .inr (.inl ⟨rfl,by simp[txtK]⟩)
 rw[if_neg h2]at b
 by_cases h3:f=3
 ·rw[if_pos h3]at b
  simp only[Bool.and_eq_true,beq_iff_eq]at b
  have c:na=[]:=List.eq_nil_of_length_eq_zero (by have:=b.1;omega)
  have e:ki=[]:=List.eq_nil_of_length_eq_zero (by have:=b.2;omega)
  subst c e h3
  exact .inr (.inr (.inl ⟨rfl,by simp[txtK]⟩))
 rw[if_neg h3]at b
 by_cases h4:f=4
 ·rw[if_pos h4]at b
  simp only[Bool.and_eq_true,beq_iff_eq]at b
  have c:na=[]:=List.eq_nil_of_length_eq_zero (by have:=b.1;omega)
  obtain⟨x,e,j⟩:=one b.2
  subst c e h4
  exact .inr (.inr (.inr (.inl ⟨x,rfl,j,by simp[txtK,headL]⟩)))
 rw[if_neg h4]at b
 by_cases h5:f=5
 ·rw[if_pos h5]at b
  simp only[Bool.and_eq_true,beq_iff_eq]at b
  have i:na.length=ki.length:=by have:=b.1;omega
  subst h5
  exact .inr (.inr (.inr (.inr (.inr ⟨na,ki,rfl,i,qjR b.2,fun k hk'=>g k hk',by simp[txtK]⟩))))
 rw[if_neg h5]at b
 by_cases h6:f=6
 ·rw[if_pos h6]at b
  simp only[Bool.and_eq_true,beq_iff_eq]at b
  have c:na=[]:=List.eq_nil_of_length_eq_zero (by have:=b.1;omega)
  obtain⟨x,e,j⟩:=one b.2
  subst c e h6
  exact .inr (.inr (.inr (.inr (.inl ⟨x,rfl,j,by simp[txtK,headL]⟩))))
 ·rw[if_neg h6]at b;cases b
theorem qcF{s:ByteArray}{i:Nat}{c:UInt8}{r:List UInt8}(h:s.data.toList.drop i=c :: r):lookB s i=c:=by
 unfold lookB;rw[h];rfl
theorem qmQ(n:Nat):(7-((n+1:Nat):Int))+1=7-(n:Int):=by omega
theorem qhO {m n:Nat} {s x:ByteArray} {i:Nat} {i':Nat} {bad':Bool} {so:Int} (hi:i<=s.size) (hs:(eatP x.data.toList (s.data.toList.drop i)=some (s.data.toList.drop (i+x.size))/\i+x.size<=s.size/\i'=i+x.size/\bad'=false)∨(eatP x.data.toList (s.data.toList.drop i)=none/\i'=i/\bad'=true))
  (hx:0<x.size) (hone:∀(t0:K (m+1)) post,s.data.toList.drop i=txtK (m+1) t0++post->goodK (m+1) t0 (7-((n+1:Nat):Int))=true->t0=(⟨so,[],[]⟩:Kd (K m))/\txtK (m+1) t0=x.data.toList) :
  GotK (m+1) (n+1) s i false (⟨so,[],[]⟩:Kd (K m)) i' bad':=by
 rcases hs with ⟨a,d,rfl,rfl⟩|⟨a,rfl,rfl⟩
 ·refine⟨by omega,fun _=>⟨rfl,by omega,d⟩,fun _=>by omega,fun h=>(by cases h),fun t0 post _ he hg=>?_⟩
  obtain⟨c,b⟩:=hone t0 post he hg
  exact⟨c.symm,rfl,by rw[b];simp⟩
 ·refine⟨Nat.le_refl _,fun h=>(by cases h),fun _=>by omega,fun h=>(by cases h),fun t0 post _ he hg=>?_⟩
  obtain⟨c,b⟩:=hone t0 post he hg
  rw[he,b,qdH]at a
  cases a
theorem xeA{m:Nat}{s:ByteArray}{i:Nat}{d:Int}(hl:lookB s i=110)(t0:K (m+1))(post:List UInt8)(he:s.data.toList.drop i=txtK (m+1) t0++post)(hg:goodK (m+1) t0 d=true):t0=(⟨1,[],[]⟩:Kd (K m))/\txtK (m+1) t0=[110,117,109]:=by
 rcases qeC hg with ⟨e,c⟩|⟨e,c⟩|⟨e,c⟩|⟨x,e,f,c⟩|⟨x,e,f,c⟩|⟨a,b,e,f,g,h,c⟩
 ·exact⟨e,c⟩
 all_goals (rw[c]at he;rw[qcF he]at hl;exact absurd hl (by decide))
theorem qwX{m:Nat}{s:ByteArray}{i:Nat}{d:Int}(hl:lookB s i=116)(t0:K (m+1))(post:List UInt8)(he:s.data.toList.drop i=txtK (m+1) t0++post)(hg:goodK (m+1) t0 d=true):t0=(⟨2,[],[]⟩:Kd (K m))/\txtK (m+1) t0=[116,101,120,116]:=by
 rcases qeC hg with ⟨e,c⟩|⟨e,c⟩|⟨e,c⟩|⟨x,e,f,c⟩|⟨x,e,f,c⟩|⟨a,b,e,f,g,h,c⟩
 ·rw[c]at he;rw[qcF he]at hl;exact absurd hl (by decide)
 ·exact⟨e,c⟩
 all_goals (rw[c]at he;rw[qcF he]at hl;exact absurd hl (by decide))
theorem qwY{m:Nat}{s:ByteArray}{i:Nat}{d:Int}(hl:lookB s i=102)(t0:K (m+1))(post:List UInt8)(he:s.data.toList.drop i=txtK (m+1) t0++post)(hg:goodK (m+1) t0 d=true):t0=(⟨3,[],[]⟩:Kd (K m))/\txtK (m+1) t0=[102,108,97,103]:=by
 rcases qeC hg with ⟨e,c⟩|⟨e,c⟩|⟨e,c⟩|⟨x,e,f,c⟩|⟨x,e,f,c⟩|⟨a,b,e,f,g,h,c⟩
 ·rw[c]at he;rw[qcF he]at hl;exact absurd hl (by decide)
 ·rw[c]at he;rw[qcF he]at hl;exact absurd hl (by decide)
 ·exact⟨e,c⟩
 all_goals (rw[c]at he;rw[qcF he]at hl;exact absurd hl (by decide))
theorem xeB{m n:Nat}{s:ByteArray}{i i':Nat}{bad':Bool}{x:K m}(hl:lookB s i=63)(hp:GotK m n s (i+1) false x i' bad'):GotK (m+1) (n+1) s i false (⟨6,[],[x]⟩:Kd (K m)) i' bad':=by
 obtain⟨q,g,j,r,k⟩:=hp
 refine⟨by omega,fun h=>⟨rfl,by omega,(g h).2.2⟩,fun _=>by have:=j rfl;omega,fun h=>(by cases h),fun t0 post _ he hg=>?_⟩
 rcases qeC hg with ⟨d,c⟩|⟨d,c⟩|⟨d,c⟩|⟨y,d,e,c⟩|⟨y,d,e,c⟩|⟨a,b,d,e,t,u,c⟩
 case inr.inr.inr.inr.inl=>
  rw[c]at he
  rw[qmQ]at e
  have f:s.data.toList.drop (i+1)=txtK m y++post:=by rw[<- List.drop_drop,he];rfl
  obtain⟨l,o,p⟩:=k y post rfl f e
  exact⟨by rw[d,l],o,by rw[c,p,List.length_cons];omega⟩
 all_goals (rw[c]at he;rw[qcF he]at hl;exact absurd hl (by decide))
theorem qqK {m n:Nat} {s:ByteArray} {i i1 i':Nat} {bad1 bad':Bool} {x:K m} (hl:lookB s i=91) (hp:GotK m n s (i+1) false x i1 bad1)
  (hs:(eatP [93] (s.data.toList.drop i1)=some (s.data.toList.drop (i1+1))/\i1+1<=s.size/\i'=i1+1/\bad'=bad1)∨((bad1=false->eatP [93] (s.data.toList.drop i1)=none)/\i'=i1/\bad'=true)):GotK (m+1) (n+1) s i false (⟨4,[],[x]⟩:Kd (K m)) i' bad':=by
 obtain⟨u,v,g,w,q⟩:=hp
 have g:=g rfl
 refine⟨?_,fun h=>⟨rfl,?_,?_⟩,fun _=>?_,fun h=>(by cases h),fun t0 post _ he hg=>?_⟩
 ·rcases hs with ⟨-,-,h,-⟩|⟨-,h,-⟩<;>omega
 ·rcases hs with ⟨-,-,h,-⟩|⟨-,h,-⟩<;>omega
 ·rcases hs with ⟨-,j,r,-⟩|⟨-,-,j⟩
  ·omega
  ·rw[j]at h;cases h
 ·rcases hs with ⟨-,-,h,-⟩|⟨-,h,-⟩<;>omega
 rcases qeC hg with ⟨d,c⟩|⟨d,c⟩|⟨d,c⟩|⟨y,d,f,c⟩|⟨y,d,f,c⟩|⟨a,b,d,f,z,B,c⟩
 case inr.inr.inr.inl=>
  rw[c]at he
  rw[qmQ]at f
  have e:s.data.toList.drop (i+1)=txtK m y++(93 :: post):=by rw[<- List.drop_drop,he];simp
  obtain⟨t,k,l⟩:=q y _ rfl e f
  have p:s.data.toList.drop i1=93 :: post:=by rw[l,<- List.drop_drop,e,List.drop_left]
  rcases hs with ⟨o,C,g3,g4⟩|⟨o,-⟩
  ·exact⟨by rw[d,t],by rw[g4,k],by rw[c,g3,l];simp;omega⟩
  ·have:=o k
   rw[p,qaE]at this
   cases this
 all_goals (rw[c]at he;rw[qcF he]at hl;exact absurd hl (by decide))
theorem xgZ {m n:Nat} {s:ByteArray} {i i':Nat} {bad':Bool} {ns:List ByteArray} {ks:List (K m)} (h1n:¬ lookB s i=110) (h2n:¬ lookB s i=116) (h3n:¬ lookB s i=102) (h4n:¬ lookB s i=63) (h5n:¬ lookB s i=91)
  (hI:qfR m n s i ns ks i' bad') (hend:bad'=false->lookB s i'=125):GotK (m+1) (n+1) s i false (⟨5,ns,ks⟩:Kd (K m)) (i'+1) bad':=by
 obtain⟨M,I,N,O,P,J⟩:=hI
 have o:bad'=false->i'<s.size:=fun j=>by
  have a:=hend j
  refine Classical.byContradiction fun hge=>?_
  rw[qbU s i' (by omega)]at a
  exact absurd a (by decide)
 refine⟨by omega,fun j=>⟨rfl,by omega,o j⟩,fun _=>by omega,fun h=>(by cases h),fun t0 post _ he hg=>?_⟩
 rcases qeC hg with ⟨l,f⟩|⟨l,f⟩|⟨l,f⟩|⟨y,l,v,f⟩|⟨y,l,v,f⟩|⟨d,b,l,v,D,L,f⟩
 case inr.inr.inr.inr.inr=>
  rw[f]at he
  have p:s.data.toList.drop i=123 :: (joinL (zipL d (b.map (txtK m)))++125 :: post):=by rw[he];simp
  obtain⟨k,E,z,B,j,F⟩:=J d b post v D p (fun k E=>by have:=L k E;rwa [qmQ]at this)
  have a:=hend j
  have x:(zipL d (b.map (txtK m))).length=b.length:=by rw[qbN _ _ (by simpa using v)];simp
  have q:k=b.length:=by
   refine Classical.byContradiction fun hne=>?_
   have t:k<b.length:=by omega
   have g:k<(zipL d (b.map (txtK m))).length:=by omega
   have u:k<d.length:=by omega
   unfold lookB at a
   rw[F,List.drop_eq_getElem_cons g,qsY _ _ _ u (by simpa using t) g,tailL]at a
   obtain⟨c,r,e,w⟩:=qyZ (D d[k] (List.getElem_mem u))
   by_cases hk0:k=0
   ·simp only[hk0,decide_true,if_true]at a
    simp only[hk0]at e
    rw[e]at a
    simp only[List.cons_append,List.headD_cons]at a
    exact (nm_ne w).2.1 a
   ·simp only[hk0,decide_false,Bool.false_eq_true,if_false,List.cons_append,List.headD_cons]at a
    exact absurd a (by decide)
  refine⟨?_,j,?_⟩
  ·rw[l,B,z,q,List.take_length,<- v,List.take_length]
  ·have G:=(I j).2
   have t:=o j
   have C:=congrArg List.length F
   have H:=congrArg List.length p
   rw[q,<- x,List.drop_length]at C
   rw[f]
   simp[tailL]at C H ⊢
   omega
 ·rw[f]at he;exact absurd (qcF he) h1n
 ·rw[f]at he;exact absurd (qcF he) h2n
 ·rw[f]at he;exact absurd (qcF he) h3n
 ·rw[f]at he;exact absurd (qcF he) h5n
 ·rw[f]at he;exact absurd (qcF he) h4n
theorem qoW {m n:Nat} {s:ByteArray} {i i':Nat} {bad':Bool} (hi:i<=s.size) (hs:(eatP [123] (s.data.toList.drop i)=some (s.data.toList.drop (i+1))/\i+1<=s.size/\i'=i+1/\bad'=false)∨(eatP [123] (s.data.toList.drop i)=none/\i'=i/\bad'=true)) :
  qfR m n s i [] [] i' bad':=by
 rcases hs with ⟨a,b,rfl,rfl⟩|⟨a,rfl,rfl⟩
 ·refine⟨by omega,fun _=>⟨by omega,b⟩,by omega,by simp,rfl,fun ns0 ks0 post hlen hnm he hg=>⟨0,Nat.zero_le _,by simp,by simp,rfl,?_⟩⟩
  rw[<- List.drop_drop,he];simp[qcT]
 ·refine⟨Nat.le_refl _,fun h=>(by cases h),by omega,by simp,rfl,fun ns0 ks0 post hlen hnm he hg=>?_⟩
  rw[he,qaE]at a
  cases a
end Go.Proofs.YtelogmjfekhmpaaGreatDoor
