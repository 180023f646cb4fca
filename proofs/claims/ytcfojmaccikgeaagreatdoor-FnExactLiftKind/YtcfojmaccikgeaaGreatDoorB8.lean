import Derived.Test.YtcfojmaccikgeaaGreatDoorB7
import Derived.Test.YtcfojmaccikgeaaGreatDoorB2
import Derived.WalkSmall
import Derived.LoopTactic
open Bool renaming and_eq_true→Zq
open List renaming eq_nil_of_length_eq_zero→Zz,mem_cons_self→Zj,take_succ_eq_append_getElem→ZA
namespace Go.Proofs.YtcfojmaccikgeaaGreatDoor
open Go.RowKit
set_option maxRecDepth 100000
set_option maxHeartbeats 16000000
variable {x s:ByteArray} {m n i i' i1:Nat} {ns:List ByteArray} {bad1 bad':Bool} {d:Int}
theorem AZ(s:ByteArray)(j:Nat):gH (fT s j)=true->j<s.size:=by intro h;exact Classical.byContradiction fun a=>by rw[ow s j om]at h;exact absurd h zC
theorem sq(l:List UInt8)(p:UInt8->Bool)(k:Nat)(h:∀x,x∈l.take k->p x=true)(a:p ((l.drop k).headD 0)=false):l.takeWhile p=l.take k:=by
 have b:∀c r,l.drop k=c :: r->p c=false:=by intro c r e;rw[e]at a;exact a
 conv=>lhs;rw[<- List.take_append_drop k l]
 exact mE _ _ h b
theorem zI(s:ByteArray)(i k:Nat)(p:UInt8->Bool)(h:i+k<s.size)(b:∀x,x∈(s.data.toList.drop i).take k->p x=true)(d:p s[i+k]=true):∀x,x∈(s.data.toList.drop i).take (k+1)->p x=true:=by
 intro x a;have c:k<(s.data.toList.drop i).length:=zE;rw[ZA c]at a;rcases List.mem_append.1 a with a|a;·exact b x a
 ·rw[List.mem_singleton]at a;subst a;simpa [ByteArray.getElem_eq_getElem_data] using d
theorem F9 (w:World) (R:Nat) (s:ByteArray) (i:Nat) (bad:Bool) (h:jb w R s i bad) (L:s.size<=10000) (hi:i<=s.size) :
  Calls Tryz.prog 179 #[.pointer (some ⟨R,0,none⟩)] w fun e d=>e=.returned (.string (bs ((s.data.toList.drop i).takeWhile gH)))/\b7 R w d /\
   jb d R s ((i+((s.data.toList.drop i).takeWhile gH).length:Nat):Int) bad/\i+((s.data.toList.drop i).takeWhile gH).length<=s.size:=by
 have c0:=h.cell0;have c1:=h.cell1;have c2:=h.cell2;go_in;go_wp2;go_loopw [9] (fun _ wr=>∃k:Nat,i+k<=s.size/\jb wr R s ((i+k:Nat):Int) bad/\b7 R w wr/\∀x,x∈(s.data.toList.drop i).take k->gH x=true) (fun _ wr=>s.size-atOf wr R);case atStart=>exact⟨0,om,h,b7.refl _ _,zS⟩
 case round=>
  obtain⟨k,v,l,o,b⟩:=hrel;have K:=l.cell0;have H:=l.cell1;have G:=l.cell2;have I:=l.free 1;have f:Hid (jb wr R s ((i+k:Nat):Int) bad/\b7 R w wr):=⟨l,o⟩;clear l o c0 c1 c2 h;generalize p:i+k=j at *;have q:Hid (∀m,Calls Tryz.prog 177 #[.pointer (some ⟨R,0,none⟩)] (wr.drewN m) fun e d=>e=.returned (.int .u8 ((fT s j).toNat:Int))/\∃t,d=wr.drewN t):=fun m=>(sF (wr.drewN m) R s j bad (f.out.1.drewN m)).mono fun e d ⟨A,k,v⟩=>⟨A,m+k,by rw[v,World.drewN_drewN]⟩;have g:Hid (Calls Tryz.prog 177 #[.pointer (some ⟨R,0,none⟩)] wr fun e d=>e=.returned (.int .u8 ((fT s j).toNat:Int))/\∃t,d=wr.drewN t):=q.out 0;have D:(0:Int)<=((fT s j).toNat:Int):=om;have F:((fT s j).toNat:Int)<=255:=by have:=(fT s j).toNat_lt;omega
  cases hnm:gH (fT s j) with
  | true=>
   have u:=AZ s j hnm;have y:Hid (∀x,x∈(s.data.toList.drop i).take (k+1)->gH x=true):=zI s i k gH om b (by rw[s9 s j u]at hnm;simpa only[p] using hnm);have J:IntKind.i64.wrap ((j:Int)+1)=(j:Int)+1:=by rw[IntKind.wrap_i64];omega
   have a:(97<=((fT s j).toNat:Int)/\((fT s j).toNat:Int)<=122)∨(48<=((fT s j).toNat:Int)/\((fT s j).toNat:Int)<=57):=by simpa only[gH,decide_eq_true_eq] using hnm
   clear b hnm;generalize (fT s j).toNat=c at *;rcases a with ⟨r,z⟩|⟨r,z⟩
   ·go_wp2_with (go_at_call 177;(first|refine g.out.mono ?_|refine (q.out _).mono ?_);rintro e d ⟨rfl,nq,rfl⟩);have n:=fun nq=>((f.out.1.drewN nq).set1 ((j:Int)+1));go_roundw;case rel=>exact⟨k+1,om,by rw[show ((i+(k+1):Nat):Int)=(j:Int)+1 by omega];exact n _,(f.out.2.drewN _).trans (b7.set R 1 _ _),y.out⟩
    case measure=>rw[(n _).atOf,f.out.1.atOf];omega
   ·go_wp2_with (go_at_call 177;(first|refine g.out.mono ?_|refine (q.out _).mono ?_);rintro e d ⟨rfl,nq,rfl⟩);have n:=fun nq=>((f.out.1.drewN nq).set1 ((j:Int)+1));go_roundw;case rel=>exact⟨k+1,om,by rw[show ((i+(k+1):Nat):Int)=(j:Int)+1 by omega];exact n _,(f.out.2.drewN _).trans (b7.set R 1 _ _),y.out⟩
    case measure=>rw[(n _).atOf,f.out.1.atOf];omega
  | false=>
   have B:Hid ((s.data.toList.drop i).takeWhile gH=(s.data.toList.drop i).take k):=sq _ _ _ b (by rw[List.drop_drop,p];exact hnm);have C:Hid (s.extract i j=bs ((s.data.toList.drop i).take k)):=by show _=_;rw[<- p];exact sy s i k
   have E:Hid (((s.data.toList.drop i).take k).length=k):=by show _=_;simp;omega
   have a:((fT s j).toNat:Int)<48∨(57<((fT s j).toNat:Int)/\((fT s j).toNat:Int)<97)∨122<((fT s j).toNat:Int):=by simp only[gH,decide_eq_false_iff_not]at hnm;omega
   clear b hnm;generalize (fT s j).toNat=c at *;rcases a with r|⟨r,z⟩|r;all_goals
    go_wp2_with (go_at_call 177;(first|refine g.out.mono ?_|refine (q.out _).mono ?_);rintro e d ⟨rfl,nq,rfl⟩)
    go_quiet (fail)
    go_wp2
    go_ret
    rw[B.out,E.out,p]
    exact⟨jG C.out,(f.out.2.drewN _).drewN _,(f.out.1.drewN _).drewN _,v⟩
def wo(s:ByteArray)(L b c:Nat)(a:Bool):Prop:=
 (L=0/\c=b/\a=false)∨(¬L=0/\((gA [44] (s.data.toList.drop b)=some (s.data.toList.drop (b+1))/\b+1<=s.size/\c=b+1/\a=false)∨(gA [44] (s.data.toList.drop b)=none/\c=b/\a=true)))
def Gl(s:ByteArray)(j i3:Nat)(b a:Bool):Prop:=
 (gA [58] (s.data.toList.drop j)=some (s.data.toList.drop (j+1))/\j+1<=s.size/\i3=j+1/\a=b)∨(gA [58] (s.data.toList.drop j)=none/\i3=j/\a=true)
def pA(m n:Nat)(s:ByteArray)(i:Nat)(bad:Bool)(t:K m)(b:Nat)(a:Bool):Prop:=
 i<=b/\(a=false->bad=false/\i<b/\b<=s.size)/\(bad=false->b<=s.size+n)/\(bad=true->b=i) /\
  (∀(t0:K m) c,bad=false->s.data.toList.drop i=d9 m t0++c->fK m t0 (7-(n:Int))=true->t=t0/\a=false/\b=i+(d9 m t0).length)
def lj(m n:Nat)(s:ByteArray)(i:Nat)(g:List ByteArray)(f:List (K m))(e:Nat)(c:Bool):Prop:=
 i<=e/\(c=false->i<e/\e<=s.size)/\e<=s.size+n/\f.length<=e+(if c=true then 1 else 0)/\g.length=f.length /\
  ∀(b:List ByteArray)(a:List (K m)) d,b.length=a.length->(∀x,x∈b->gh x=true)->s.data.toList.drop i=123 :: (fS (gq b (a.map (d9 m)))++125 :: d)->(∀k,k∈a->fK m k (7-(n:Int))=true) ->
   ∃k,k<=a.length/\f=a.take k/\g=b.take k/\c=false/\s.data.toList.drop e=ji (decide (k=0)) ((gq b (a.map (d9 m))).drop k)++125 :: d
theorem zz(h:gh x=true):∃c r,x.data.toList=c :: r/\gH c=true:=by
 have a:1<=x.size:=by simp only[gh,Zq,decide_eq_true_eq]at h;exact h.1.1.1
 cases hd:x.data.toList with
 | nil=>
  have d:x.data.toList.length=0:=by rw[hd];rfl
  have b:x.data.toList.length=x.size:=zS;omega
 | cons c r=>exact⟨c,r,rfl,nI h c (by rw[hd];exact Zj ..)⟩
theorem vd(a:List ByteArray)(l:List (List UInt8))(k:Nat)(b:k<a.length)(c:k<l.length)(h:k<(gq a l).length):(gq a l)[k]=a[k].data.toList++58 :: l[k]:=by
 induction a generalizing l k with
 | nil=>simp at b
 | cons x r d=>
  cases l with
  | nil=>simp at c
  | cons y t=>
   cases k with
   | zero=>rfl
   | succ k=>simpa [gq] using d t k (by simpa using b) (by simpa using c) (by simpa [gq] using h)
theorem Bv {D:List (K m)} {i3 i2:Nat} {j f:Bool} {t2:K m} (P:lj m n s i ns D i' false) (E:¬ fT s i'=125) (F:wo s D.length i' i1 bad1)
  (A:Gl s (i1+((s.data.toList.drop i1).takeWhile gH).length) i3 bad1 j) (hp:pA m n s i3 j t2 i2 f)
  (Q:i1+((s.data.toList.drop i1).takeWhile gH).length<=s.size) :
  lj m n s i (ns++[bs ((s.data.toList.drop i1).takeWhile gH)]) (D++[t2]) i2 f/\(if f=true then 0 else s.size+1-i2)<s.size+1-i':=by
 obtain⟨h1,M,h3,L,V,Z⟩:=P;obtain⟨p1,H,p3,X,N⟩:=hp;have M:=M rfl;have L:D.length<=i':=by simpa using L
 have aa:i'<=i1:=by rcases F with ⟨-,h,-⟩|⟨-,⟨-,-,h,-⟩|⟨-,h,-⟩⟩<;>omega
 have W:i1<=i3/\i3<=s.size:=by rcases A with ⟨-,h,h',-⟩|⟨-,h,-⟩<;>omega
 refine⟨⟨om,fun h=>⟨om,(H h).2.2⟩,?_,?_,by simp[V],fun d a l t y O J=>?_⟩,?_⟩
 ·cases j with
  | false=>exact p3 rfl
  | true=>have:=X rfl;omega
 ·rw[List.length_append,List.length_singleton];cases f with
  | false=>have:=(H rfl).2.1;simp;omega
  | true=>simp;omega
 ·obtain⟨k,hk,C,G,-,u⟩:=Z d a l t y O J;have S:D.length=k:=by rw[C,List.length_take];omega
  have ab:(gq d (a.map (d9 m))).length=a.length:=by rw[ix _ _ (by simpa using t)];simp
  have w:k<a.length:=by refine Classical.byContradiction fun U=>E ?_;have:(gq d (a.map (d9 m))).drop k=[]:=List.drop_of_length_le om;rw[this]at u;unfold fT;rw[u];rfl
  have q:k<(gq d (a.map (d9 m))).length:=om;have v:k<d.length:=om;rw[List.drop_eq_getElem_cons q,vd _ _ _ v (by simpa using w) q,List.getElem_map,ji,List.append_assoc]at u;have g:bad1=false/\s.data.toList.drop i1=d[k].data.toList++58 :: (d9 m a[k]++(ji false ((gq d (a.map (d9 m))).drop (k+1))++125 :: l)):=by
   by_cases p:k=0
   ·simp only[p,decide_true,if_true,List.append_assoc,List.cons_append]at u;rcases F with ⟨-,h,B⟩|⟨h,-⟩;·refine⟨B,?_⟩;rw[h,u];simp only[p]
    ·exact absurd om h
   ·simp only[p,decide_false,Bool.false_eq_true,if_false,List.cons_append,List.append_assoc]at u;rcases F with ⟨h,-⟩|⟨-,⟨b,-,h,B⟩|⟨b,-⟩⟩;·exact absurd om p
    ·refine⟨B,?_⟩;rw[u,gQ]at b;rw[h];exact (Option.some.inj b).symm
    ·rw[u,gQ]at b;cases b
  have I:=y d[k] (List.getElem_mem v);have z:(s.data.toList.drop i1).takeWhile gH=d[k].data.toList:=by rw[g.2];exact mE _ _ (nI I) (by intro c r e;cases e;decide)
  have x:s.data.toList.drop (i1+((s.data.toList.drop i1).takeWhile gH).length)=58 :: (d9 m a[k]++(ji false ((gq d (a.map (d9 m))).drop (k+1))++125 :: l)):=by rw[z,<- List.drop_drop,g.2,List.drop_left]
  have o:j=false/\s.data.toList.drop i3=d9 m a[k]++(ji false ((gq d (a.map (d9 m))).drop (k+1))++125 :: l):=by
   rcases A with ⟨b,-,h,B⟩|⟨b,-⟩;·rw[x,gQ]at b;exact⟨by rw[B];exact g.1,by rw[h];exact (Option.some.inj b).symm⟩
   ·rw[x,gQ]at b;cases b
  obtain⟨Y,T,R⟩:=N a[k] _ o.1 o.2 (J _ (List.getElem_mem w));refine⟨k+1,om,?_,?_,T,?_⟩;·rw[ZA w,<- C,Y]
  ·rw[ZA v,<- G,z,ru]
  ·rw[R,<- List.drop_drop,o.2,List.drop_left];simp
 ·cases f with
  | true=>simp;omega
  | false=>have:=(H rfl).2;simp;omega
theorem ke {t:K (m+1)} (h:fK (m+1) t d=true) :
  (t=(⟨1,[],[]⟩:Kd (K m))/\d9 (m+1) t=[110,117,109])∨(t=(⟨2,[],[]⟩:Kd (K m))/\d9 (m+1) t=[116,101,120,116])∨(t=(⟨3,[],[]⟩:Kd (K m))/\d9 (m+1) t=[102,108,97,103]) ∨
  (∃x,t=(⟨4,[],[x]⟩:Kd (K m))/\fK m x (d+1)=true/\d9 (m+1) t=91 :: (d9 m x++[93]))∨(∃x,t=(⟨6,[],[x]⟩:Kd (K m))/\fK m x (d+1)=true/\d9 (m+1) t=63 :: d9 m x) ∨
  (∃na b,t=(⟨5,na,b⟩:Kd (K m))/\na.length=b.length/\(∀x,x∈na->gh x=true)/\(∀k,k∈b->fK m k (d+1)=true)/\d9 (m+1) t=123 :: (fS (gq na (b.map (d9 m)))++[125])):=by
 simp only[fK,Zq]at h;have a:fW (Kd.sort t) (Kd.names t) (Kd.kids t).length=true:=h.1.2;have g:=List.all_eq_true.1 h.2;obtain⟨f,na,b⟩:Kd (K m):=t;simp only at a g;unfold fW at a;have one:(b.length:Int)=1->∃x,b=[x]/\fK m x (d+1)=true:=by
  intro n;match b,n,g with
  | [x],_,g=>exact⟨x,rfl,g x (Zj ..)⟩
 by_cases l:f=1;·rw[if_pos l]at a;simp only[Zq,beq_iff_eq]at a;have c:na=[]:=Zz (by have:=a.1;omega);have e:b=[]:=Zz (by have:=a.2;omega);subst c e l;exact .inl ⟨rfl,by simp[d9]⟩
 rw[if_neg l]at a;by_cases i:f=2;·rw[if_pos i]at a;simp only[Zq,beq_iff_eq]at a;have c:na=[]:=Zz (by have:=a.1;omega);have e:b=[]:=Zz (by have:=a.2;omega);subst c e i;exact .inr (.inl ⟨rfl,by simp[d9]⟩)
 rw[if_neg i]at a;by_cases p:f=3;·rw[if_pos p]at a;simp only[Zq,beq_iff_eq]at a;have c:na=[]:=Zz (by have:=a.1;omega);have e:b=[]:=Zz (by have:=a.2;omega);subst c e p;exact .inr (.inr (.inl ⟨rfl,by simp[d9]⟩))
 rw[if_neg p]at a;by_cases q:f=4;·rw[if_pos q]at a;simp only[Zq,beq_iff_eq]at a;have c:na=[]:=Zz (by have:=a.1;omega);obtain⟨x,e,r⟩:=one a.2;subst c e q;exact .inr (.inr (.inr (.inl ⟨x,rfl,r,by simp[d9,i8]⟩)))
 rw[if_neg q]at a;by_cases o:f=5
 ·rw[if_pos o]at a;simp only[Zq,beq_iff_eq]at a;have n:na.length=b.length:=by have:=a.1;omega
  subst o;exact .inr (.inr (.inr (.inr (.inr ⟨na,b,rfl,n,sX a.2,fun k j=>g k j,by simp[d9]⟩))))
 rw[if_neg o]at a;by_cases s:f=6;·rw[if_pos s]at a;simp only[Zq,beq_iff_eq]at a;have c:na=[]:=Zz (by have:=a.1;omega);obtain⟨x,e,r⟩:=one a.2;subst c e s;exact .inr (.inr (.inr (.inr (.inl ⟨x,rfl,r,by simp[d9,i8]⟩))))
 ·rw[if_neg s]at a;cases a
theorem iL{c:UInt8}{r:List UInt8}(h:s.data.toList.drop i=c :: r):fT s i=c:=by unfold fT;rw[h];rfl
theorem qE(n:Nat):(7-((n+1:Nat):Int))+1=7-(n:Int):=by omega
theorem mS {so:Int} (hi:i<=s.size) (k:(gA x.data.toList (s.data.toList.drop i)=some (s.data.toList.drop (i+x.size))/\i+x.size<=s.size/\i'=i+x.size/\bad'=false)∨(gA x.data.toList (s.data.toList.drop i)=none/\i'=i/\bad'=true))
  (l:0<x.size) (b:∀(t0:K (m+1)) a,s.data.toList.drop i=d9 (m+1) t0++a->fK (m+1) t0 (7-((n+1:Nat):Int))=true->t0=(⟨so,[],[]⟩:Kd (K m))/\d9 (m+1) t0=x.data.toList) :
  pA (m+1) (n+1) s i false (⟨so,[],[]⟩:Kd (K m)) i' bad':=by
 rcases k with ⟨d,j,rfl,rfl⟩|⟨d,rfl,rfl⟩;·refine⟨om,fun _=>⟨rfl,om,j⟩,fun _=>om,fun h=>(by cases h),fun t0 a _ c e=>?_⟩;obtain⟨g,f⟩:=b t0 a c e;exact⟨g.symm,rfl,by rw[f];simp⟩
 ·refine⟨Nat.le_refl _,fun h=>(by cases h),fun _=>om,fun h=>(by cases h),fun t0 a _ c e=>?_⟩;obtain⟨g,f⟩:=b t0 a c e;rw[c,f,kg]at d;cases d
theorem Ci(j:fT s i=110)(t0:K (m+1))(f:List UInt8)(h:s.data.toList.drop i=d9 (m+1) t0++f)(k:fK (m+1) t0 d=true):t0=(⟨1,[],[]⟩:Kd (K m))/\d9 (m+1) t0=[110,117,109]:=by
 rcases ke k with ⟨e,c⟩|⟨e,c⟩|⟨e,c⟩|⟨x,e,g,c⟩|⟨x,e,g,c⟩|⟨a,b,e,g,n,l,c⟩;·exact⟨e,c⟩
 all_goals (rw[c]at h;rw[iL h]at j;exact absurd j zC)
theorem yy(h:fT s i=116)(t0:K (m+1))(f:List UInt8)(g:s.data.toList.drop i=d9 (m+1) t0++f)(k:fK (m+1) t0 d=true):t0=(⟨2,[],[]⟩:Kd (K m))/\d9 (m+1) t0=[116,101,120,116]:=by
 rcases ke k with ⟨e,c⟩|⟨e,c⟩|⟨e,c⟩|⟨x,e,j,c⟩|⟨x,e,j,c⟩|⟨a,b,e,j,n,l,c⟩;·rw[c]at g;rw[iL g]at h;exact absurd h zC
 ·exact⟨e,c⟩
 all_goals (rw[c]at g;rw[iL g]at h;exact absurd h zC)
theorem zs(g:fT s i=102)(t0:K (m+1))(h:List UInt8)(f:s.data.toList.drop i=d9 (m+1) t0++h)(k:fK (m+1) t0 d=true):t0=(⟨3,[],[]⟩:Kd (K m))/\d9 (m+1) t0=[102,108,97,103]:=by
 rcases ke k with ⟨e,c⟩|⟨e,c⟩|⟨e,c⟩|⟨x,e,j,c⟩|⟨x,e,j,c⟩|⟨a,b,e,j,n,l,c⟩;·rw[c]at f;rw[iL f]at g;exact absurd g zC
 ·rw[c]at f;rw[iL f]at g;exact absurd g zC
 ·exact⟨e,c⟩
 all_goals (rw[c]at f;rw[iL f]at g;exact absurd g zC)
theorem Ee{x:K m}(k:fT s i=63)(t:pA m n s (i+1) false x i' bad'):pA (m+1) (n+1) s i false (⟨6,[],[x]⟩:Kd (K m)) i' bad':=by
 obtain⟨B,v,r,w,o⟩:=t;refine⟨om,fun h=>⟨rfl,om,(v h).2.2⟩,fun _=>by have:=r rfl;omega,fun h=>(by cases h),fun t0 d _ f l=>?_⟩;rcases ke l with ⟨e,c⟩|⟨e,c⟩|⟨e,c⟩|⟨y,e,g,c⟩|⟨y,e,g,c⟩|⟨a,b,e,g,A,z,c⟩;case inr.inr.inr.inr.inl=>
  rw[c]at f;rw[qE]at g;have j:s.data.toList.drop (i+1)=d9 m y++d:=by rw[<- List.drop_drop,f];rfl
  obtain⟨p,u,q⟩:=o y d rfl j g;exact⟨by rw[e,p],u,by rw[c,q,List.length_cons];omega⟩
 all_goals (rw[c]at f;rw[iL f]at k;exact absurd k zC)
theorem tR {x:K m} (r:fT s i=91) (C:pA m n s (i+1) false x i1 bad1)
  (g:(gA [93] (s.data.toList.drop i1)=some (s.data.toList.drop (i1+1))/\i1+1<=s.size/\i'=i1+1/\bad'=bad1)∨((bad1=false->gA [93] (s.data.toList.drop i1)=none)/\i'=i1/\bad'=true)):pA (m+1) (n+1) s i false (⟨4,[],[x]⟩:Kd (K m)) i' bad':=by
 obtain⟨F,H,t,I,v⟩:=C;have t:=t rfl;refine⟨?_,fun h=>⟨rfl,?_,?_⟩,fun _=>?_,fun h=>(by cases h),fun t0 d _ j u=>?_⟩;·rcases g with ⟨-,-,h,-⟩|⟨-,h,-⟩<;>omega
 ·rcases g with ⟨-,-,h,-⟩|⟨-,h,-⟩<;>omega
 ·rcases g with ⟨-,p,w,-⟩|⟨-,-,p⟩;·omega
  ·rw[p]at h;cases h
 ·rcases g with ⟨-,-,h,-⟩|⟨-,h,-⟩<;>omega
 rcases ke u with ⟨e,c⟩|⟨e,c⟩|⟨e,c⟩|⟨y,e,k,c⟩|⟨y,e,k,c⟩|⟨a,b,e,k,E,J,c⟩;case inr.inr.inr.inl=>
  rw[c]at j;rw[qE]at k;have f:s.data.toList.drop (i+1)=d9 m y++(93 :: d):=by rw[<- List.drop_drop,j];simp
  obtain⟨z,o,l⟩:=v y _ rfl f k;have D:s.data.toList.drop i1=93 :: d:=by rw[l,<- List.drop_drop,f,List.drop_left]
  rcases g with ⟨q,G,B,A⟩|⟨q,-⟩;·exact⟨by rw[e,z],by rw[A,o],by rw[c,B,l];simp;omega⟩
  ·have:=q o;rw[D,gQ]at this;cases this
 all_goals (rw[c]at j;rw[iL j]at r;exact absurd r zC)
theorem FG {P:List (K m)} (G:¬ fT s i=110) (D:¬ fT s i=116) (H:¬ fT s i=102) (E:¬ fT s i=63) (C:¬ fT s i=91)
  (S:lj m n s i ns P i' bad') (o:bad'=false->fT s i'=125):pA (m+1) (n+1) s i false (⟨5,ns,P⟩:Kd (K m)) (i'+1) bad':=by
 obtain⟨h1,W,h3,Z,h6,Y⟩:=S;have z:bad'=false->i'<s.size:=fun p=>by have a:=o p;refine Classical.byContradiction fun T=>?_;rw[ow s i' om]at a;exact absurd a zC
 refine⟨om,fun p=>⟨rfl,om,z p⟩,fun _=>om,fun h=>(by cases h),fun t0 l _ f R=>?_⟩;rcases ke R with ⟨t,g⟩|⟨t,g⟩|⟨t,g⟩|⟨y,t,v,g⟩|⟨y,t,v,g⟩|⟨d,b,t,v,N,V,g⟩;case inr.inr.inr.inr.inr=>
  rw[g]at f;have x:s.data.toList.drop i=123 :: (fS (gq d (b.map (d9 m)))++125 :: l):=by rw[f];simp
  obtain⟨k,L,I,F,p,M⟩:=Y d b l v N x (fun k L=>by have:=V k L;rwa [qE]at this);have a:=o p;have J:(gq d (b.map (d9 m))).length=b.length:=by rw[ix _ _ (by simpa using v)];simp
  have w:k=b.length:=by
   refine Classical.byContradiction fun Q=>?_;have A:k<b.length:=om;have j:k<(gq d (b.map (d9 m))).length:=om;have u:k<d.length:=om;unfold fT at a;rw[M,List.drop_eq_getElem_cons j,vd _ _ _ u (by simpa using A) j,ji]at a;obtain⟨c,r,e,B⟩:=zz (N d[k] (List.getElem_mem u));by_cases q:k=0;·simp only[q,decide_true,if_true]at a;simp only[q]at e;rw[e]at a;simp only[List.cons_append,List.headD_cons]at a;exact (F6 B).2.1 a
   ·simp only[q,decide_false,Bool.false_eq_true,if_false,List.cons_append,List.headD_cons]at a;exact absurd a zC
  refine⟨?_,p,?_⟩;·rw[t,F,I,w,List.take_length,<- v,List.take_length]
  ·have U:=(W p).2;have A:=z p;have O:=congrArg List.length M;have X:=congrArg List.length x;rw[w,<- J,List.drop_length]at O;rw[g];simp[ji]at O X ⊢;omega
 ·rw[g]at f;exact absurd (iL f) G
 ·rw[g]at f;exact absurd (iL f) D
 ·rw[g]at f;exact absurd (iL f) H
 ·rw[g]at f;exact absurd (iL f) C
 ·rw[g]at f;exact absurd (iL f) E
theorem s7 (hi:i<=s.size) (l:(gA [123] (s.data.toList.drop i)=some (s.data.toList.drop (i+1))/\i+1<=s.size/\i'=i+1/\bad'=false)∨(gA [123] (s.data.toList.drop i)=none/\i'=i/\bad'=true)) :
  lj m n s i [] [] i' bad':=by
 rcases l with ⟨c,j,rfl,rfl⟩|⟨c,rfl,rfl⟩;·refine⟨om,fun _=>⟨om,j⟩,om,zS,rfl,fun f g b a d e k=>⟨0,Nat.zero_le _,zS,zS,rfl,?_⟩⟩;rw[<- List.drop_drop,e];simp[pi]
 ·refine⟨Nat.le_refl _,fun h=>(by cases h),om,zS,rfl,fun f g b a d e k=>?_⟩;rw[e,gQ]at c;cases c
end Go.Proofs.YtcfojmaccikgeaaGreatDoor
