import Derived.Test.YtcfojmaccikgeaaGreatDoorB22
import Derived.Test.YtcfojmaccikgeaaGreatDoorB2
import Derived.Test.YtcfojmaccikgeaaGreatDoorB24
import Derived.BigQuiet
import Derived.Test.YtcfojmaccikgeaaGreatDoorB23
import Derived.Test.YtcfojmaccikgeaaGreatDoorB19
open Go.Value renaming slice→Zs,int→Zi,string→Zt,pointer→Zp,agg→Za,bool→Zb
open Go.IntKind renaming i64→Zk
open Go.Ending renaming returned→Zr
open Go.Obj renaming cells→Zc
open Option renaming none→Zn,some→Zo
open Go renaming World→Zw,Value→Zv
open Nat renaming lt_of_lt_of_le→Zd
open Go.RowKit.Below renaming heap_alloc→Zh
namespace Go.Proofs.YtcfojmaccikgeaaGreatDoor
open Go.RowKit Go.Proofs.Tryz
set_option maxRecDepth 100000
set_option maxHeartbeats 16000000
variable {w w':Zw} {b m rb:Nat} {S:Nat->Prop}
structure xj(S:Nat->Prop)(w:Zw)(m bk rb:Nat)(n r:Nd (T m))(q0 v3 v4:Zv)(na ka:Option Addr)(nc kc:Nat):Prop where
 rst:vJ S w m rb r q0 v3 v4
 bnd:∀b,S b->b<w.heap.size/\b≠rb
 book:kz w bk
 ne:bk≠rb
 names:fL S w n.names (Zs na n.names.length nc)
 cap:n.names.length<=nc
 kids:ig S w (fZ S w m) n.kids (Zs ka n.kids.length kc)
 le:r.names.length<=n.names.length
 txt:n.text.size<=1048576
 w0:(Lit.int Zk n.sort).wf=true
 w1:(Lit.int Zk n.num).wf=true
 op:1<=n.sort/\n.sort<=43
theorem kz.lt(h:kz w b):b<w.heap.size:=by have:=(h 0 om).1;exact Classical.byContradiction fun c=>by have a:w.heap[b]?=Zn:=Array.getElem?_eq_none om;simp[World.cell?,a]at this
theorem xj.on{d:Nat}{n r:Nd (T m)}{j v3 v4:Zv}{na f:Option Addr}{g i:Nat}(h:xj S w m d rb n r j v3 v4 na f g i)(a:Bw w w'):xj S w' m d rb n r j v3 v4 na f g i:=by have e:jy S w w':=fun b c=>a.block b (h.bnd b c).1;exact⟨h.rst.keep e (a.block rb h.rst.lt),fun b c=>⟨Zd (h.bnd b c).1 a.size,(h.bnd b c).2⟩,h.book.keep (a.block d h.book.lt),h.ne,h.names.keep e (fun _ h=>h),h.cap,h.kids.keepN e (fun _ h=>h),h.le,h.txt,h.w0,h.w1,h.op⟩
theorem BV{w0:Zw}(b:Bw w w0)(a:b7 rb w0 w'):b7 rb w w':=(b7.of_below b).trans a
theorem sU (S:Nat->Prop) (w:Zw) (m k c:Nat) (n r:Nd (T m)) (d v3 v4:Zv) (na f:Option Addr) (i g:Nat) (p:UInt8) (a:p=86∨p=65) (h:xj S w m k c n r d v3 v4 na f i g) :
  Calls prog 147 #[Zp (Zo ⟨k,0,Zn⟩),Zp (Zo ⟨c,0,Zn⟩),Zi .i32 (p.toNat:Int),Za #[Zi Zk n.sort,Zi Zk n.num,Zt n.text,Zs na n.names.length i,Zs f n.kids.length g]] w (hh S m c n r d p w):=by
 have b:=(Below.refl w.heap.size w).alloc (Nat.le_refl _) (Zc #[Zi Zk n.sort,Zi Zk n.num,Zt n.text,Zs na n.names.length i,Zs f n.kids.length g] 40);have j:=h.on b;have l:Hid (Calls prog 185 _ _ _):=rN S m p a c n r d v3 v4 _ j.rst j.bnd;have o:=a7 b;have x:((p.toNat:Int)==84)=false:=by rcases a with rfl|rfl<;>rfl
 have C:((p.toNat:Int)==35)=false:=by rcases a with rfl|rfl<;>rfl
 have B:((p.toNat:Int)==75)=false:=by rcases a with rfl|rfl<;>rfl
 have A:((p.toNat:Int)==70)=false:=by rcases a with rfl|rfl<;>rfl
 have y:((p.toNat:Int)==78)=false:=by rcases a with rfl|rfl<;>rfl
 have z:((p.toNat:Int)==88)=false:=by rcases a with rfl|rfl<;>rfl
 clear h j b a;go_in;go_wp2_with fail;refine l.out.mono ?_;rintro e w1 ⟨q,s⟩;have u:Hid (hh S m c n r d p w e w1):=⟨BV o.out q,s⟩;rcases s with ⟨D,v,t,-,rfl,-⟩|⟨-,rfl⟩;all_goals
  clear q l o
  go_wp2
  go_ret
  exact u.out
theorem tp (S:Nat->Prop) (w:Zw) (m i d:Nat) (n r:Nd (T m)) (f v3 v4:Zv) (na g:Option Addr) (k j:Nat) (p:UInt8) (c:p=78∨p=88) (h:xj S w m i d n r f v3 v4 na g k j) :
  Calls prog 147 #[Zp (Zo ⟨i,0,Zn⟩),Zp (Zo ⟨d,0,Zn⟩),Zi .i32 (p.toNat:Int),Za #[Zi Zk n.sort,Zi Zk n.num,Zt n.text,Zs na n.names.length k,Zs g n.kids.length j]] w (hh S m d n r f p w):=by
 have b:=(Below.refl w.heap.size w).alloc (Nat.le_refl _) (Zc #[Zi Zk n.sort,Zi Zk n.num,Zt n.text,Zs na n.names.length k,Zs g n.kids.length j] 40);have a:=h.on b;have l:Hid (Calls prog 184 _ _ _):=qT S m p c i d n r f v3 v4 _ _ a.rst a.bnd a.book a.ne a.names ⟨_,_,_,rfl,a.cap⟩ a.le;have o:=a7 b;have x:((p.toNat:Int)==84)=false:=by rcases c with rfl|rfl<;>rfl
 have A:((p.toNat:Int)==35)=false:=by rcases c with rfl|rfl<;>rfl
 have z:((p.toNat:Int)==75)=false:=by rcases c with rfl|rfl<;>rfl
 have y:((p.toNat:Int)==70)=false:=by rcases c with rfl|rfl<;>rfl
 clear h a b;rcases c with rfl|rfl;all_goals
  go_in
  go_wp2_with fail
  refine l.out.mono ?_
  rintro e w1 ⟨q,s⟩
  have u:=a7 (show hh S m d n r f _ w e w1 from ⟨BV o.out q,s⟩)
  rcases s with ⟨B,v,t,-,rfl,-⟩|⟨-,rfl⟩
  all_goals
   clear q l o
   go_wp2
   go_ret
   exact u.out
theorem tJ(S:Nat->Prop)(w:Zw)(x v:Int)(tx:ByteArray)(d:(Lit.int Zk x).wf=true)(c:(Lit.int Zk v).wf=true)(b:tx.size<=maxLen):gJ S w 1 (lB x v tx) (Zi Zk x) (Zi Zk v) (Zt tx) (Zs Zn 0 0) (Zs Zn 0 0):=
 ⟨rfl,rfl,rfl,b,d,c,⟨Zn,0,rfl,by simp[maxLen,lB],fun s a=>by simp[lB]at a,fun h=>absurd rfl h⟩,⟨Zn,0,rfl,by simp[maxLen,lB],fun h=>absurd rfl h⟩⟩
theorem zt(h:Below w.drew.heap.size w.drew w'):Bw w w':=((Below.refl _ _).drew).trans h
theorem B4(x v:Int)(tx:ByteArray):Be 1 (lB x v tx)=gS x v tx [] 0:=by
 have a:ia 1 (lB x v tx) 1=gS x v tx [] 0:=by show (decide ((1:Int)<=6) && gS x v tx [] 0 && List.all ([]:List (T 0)) _)=_;simp
 have b:fJ 1 (lB x v tx)=1:=rfl;unfold Be;rw[a,b];simp
theorem AL (S:Nat->Prop) (w:Zw) (m x c:Nat) (n r:Nd (T m)) (t v3 v4:Zv) (na s:Option Addr) (q o:Nat) (h:xj S w m x c n r t v3 v4 na s q o) :
  Calls prog 147 #[Zp (Zo ⟨x,0,Zn⟩),Zp (Zo ⟨c,0,Zn⟩),Zi .i32 84,Za #[Zi Zk n.sort,Zi Zk n.num,Zt n.text,Zs na n.names.length q,Zs s n.kids.length o]] w (hh S m c n r t 84 w):=by
 obtain⟨⟨G,H,J,I⟩,f1,f2,f3,f4⟩:=h.rst.cells;have j:=h.rst.lt;have C:w.heap.size≠c:=om;obtain⟨W,p⟩:=iw (((w.setCell ⟨c,1,Zn⟩ (Zi Zk 0)).setCell ⟨c,2,Zn⟩ (Zt ⟨#[]⟩)).alloc (Zc #[Zi Zk n.sort,Zi Zk n.num,Zt n.text,Zs na n.names.length q,Zs s n.kids.length o] 40));have a:b7 c w W:=by rw[p];exact ((b7.set c 1 _ _).trans (b7.set c 2 _ _)).trans (b7.alloc _ _ _)
 have f:vJ S W m c ⟨r.sort,0,ByteArray.empty,r.names,r.kids⟩ t v3 v4:=by have z:=a.same h.bnd;refine⟨?_,h.rst.n3.keep z (fun _ h=>h),h.rst.k3,h.rst.n4.keepN z (fun _ h=>h),h.rst.k4⟩;rw[p];exact (Zh _ _ _ (by simpa using j)).trans (lF (lF h.rst.box _) _)
 have k:n.text.size<=maxLen:=Nat.le_trans h.txt zC;have l:Hid (∀w,Calls prog 181 _ w _):=fun w=>oh n.sort n.num n.text na s n.names.length n.kids.length q o w;have i:Hid (∀w,Calls prog 180 #[Za #[Zi Zk n.sort,Zi Zk n.num,Zt n.text,Zs Zn 0 0,Zs Zn 0 0]] w fun e F=>e=Zr (Zb (gS n.sort n.num n.text [] 0))/\Bw w F):=by intro w;have:=si 1 (fun _=>False) (lB n.sort n.num n.text) _ _ _ _ _ w (tJ _ w n.sort n.num n.text h.w0 h.w1 k) (fun _ h=>h.elim);rw[B4]at this;exact this
 have y:Hid (∀u,Bw W u->hh S m c n r t 84 w (Zr (Zb (gS n.sort n.num n.text [] 0))) u):=by
  intro u v;refine⟨a.trans (b7.of_below v),?_⟩;cases ha:gS n.sort n.num n.text [] 0 with
  | true=>exact .inl ⟨_,v3,v4,(Fh _ n r).trans (if_pos ha),rfl,f.keep (fun b D=>v.block b (Zd (h.bnd b D).1 a.size)) (v.block c (Zd j a.size))⟩
  | false=>exact .inr ⟨(Fh _ n r).trans (if_neg (by rw[ha];decide)),rfl⟩
 have A:=a7 p;generalize gS n.sort n.num n.text [] 0=ok at *;clear h f a p k;go_in;go_wp2_with fail;refine (l.out _).mono ?_;rintro e w1 ⟨rfl,d⟩;rw[<- A.out]at d;go_wp2_with fail;refine (i.out _).mono ?_;rintro e E ⟨rfl,g⟩;have B:=a7 (y.out E (d.trans (g.mono d.size)));clear d g y l i;go_wp2;go_ret;exact B.out
theorem AH (S:Nat->Prop) (w:Zw) (m A c:Nat) (n r:Nd (T m)) (t v3 v4:Zv) (na y:Option Addr) (v u:Nat) (h:xj S w m A c n r t v3 v4 na y v u) :
  Calls prog 147 #[Zp (Zo ⟨A,0,Zn⟩),Zp (Zo ⟨c,0,Zn⟩),Zi .i32 75,Za #[Zi Zk n.sort,Zi Zk n.num,Zt n.text,Zs na n.names.length v,Zs y n.kids.length u]] w (hh S m c n r t 75 w):=by
 obtain⟨⟨K,L,O,N⟩,f1,f2,f3,f4⟩:=h.rst.cells;have l:=h.rst.lt;have H:w.heap.size≠c:=om;obtain⟨W,q⟩:=iw ((w.setCell ⟨c,2,Zn⟩ (Zt ⟨#[]⟩)).alloc (Zc #[Zi Zk n.sort,Zi Zk n.num,Zt n.text,Zs na n.names.length v,Zs y n.kids.length u] 40));have a:b7 c w W:=by rw[q];exact (b7.set c 2 _ _).trans (b7.alloc _ _ _)
 have f:vJ S W m c ⟨r.sort,r.num,ByteArray.empty,r.names,r.kids⟩ t v3 v4:=by have E:=a.same h.bnd;refine⟨?_,h.rst.n3.keep E (fun _ h=>h),h.rst.k3,h.rst.n4.keepN E (fun _ h=>h),h.rst.k4⟩;rw[q];exact (Zh _ _ _ (by simpa using l)).trans (lF h.rst.box _)
 have B:Hid (∀w,Calls prog 157 #[Zt n.text] w fun e C=>Bw w C/\∃(s:Int)(g a2:Option Addr)(j p k i:Nat),e=Zr (.tuple #[Za #[Zi Zk s,Zs g j k,Zs a2 p i],Zb (jK n.text)])):=by intro w;refine (oT n.text (n.text.size+7) om h.txt w).mono ?_;rintro e C ⟨o,c0,c1,c2,J,M,rfl,z,-⟩;refine⟨o,?_⟩;obtain⟨s,g,j,k,a2,p,i,rfl,rfl,rfl⟩:=z.shape;exact⟨s,g,a2,j,p,k,i,rfl⟩
 have D:Hid (∀x,Bw W x->hh S m c n r t 75 w (Zr (Zb (jK n.text))) x):=by
  intro x o;refine⟨a.trans (b7.of_below o),?_⟩;cases ha:jK n.text with
  | true=>exact .inl ⟨_,v3,v4,(Ex _ n r).trans (if_pos ha),rfl,f.keep (fun b I=>o.block b (Zd (h.bnd b I).1 a.size)) (o.block c (Zd l a.size))⟩
  | false=>exact .inr ⟨(Ex _ n r).trans (if_neg (by rw[ha];decide)),rfl⟩
 have F:=a7 q;generalize jK n.text=ok at *;clear h f a q;go_in;go_wp2_with fail;refine (B.out _).mono ?_;rintro e w1 ⟨d,s,g,a2,j,p,k,i,rfl⟩;rw[<- F.out]at d;have G:=a7 (D.out _ (d.alloc d.size (Zc #[Zi Zk s,Zs g j k,Zs a2 p i] 31)));clear d D B;go_wp2;go_ret;exact G.out
theorem Bn (S:Nat->Prop) (w:Zw) (m o b:Nat) (n r:Nd (T m)) (f v3 v4:Zv) (na k:Option Addr) (j g:Nat) (h:xj S w m o b n r f v3 v4 na k j g) :
  Calls prog 147 #[Zp (Zo ⟨o,0,Zn⟩),Zp (Zo ⟨b,0,Zn⟩),Zi .i32 70,Za #[Zi Zk n.sort,Zi Zk n.num,Zt n.text,Zs na n.names.length j,Zs k n.kids.length g]] w (hh S m b n r f 70 w):=by
 obtain⟨⟨u,v,y,x⟩,f1,f2,f3,f4⟩:=h.rst.cells;have l:=h.rst.lt;have p:w.heap.size≠b:=om;obtain⟨W,i⟩:=iw (((w.setCell ⟨b,3,Zn⟩ (Zs Zn 0 0)).setCell ⟨b,4,Zn⟩ (Zs Zn 0 0)).alloc (Zc #[Zi Zk n.sort,Zi Zk n.num,Zt n.text,Zs na n.names.length j,Zs k n.kids.length g] 40));have a:b7 b w W:=by rw[i];exact ((b7.set b 3 _ _).trans (b7.set b 4 _ _)).trans (b7.alloc _ _ _)
 have d:=a.same h.bnd;have c:vJ S W m b ⟨r.sort,r.num,r.text,[],[]⟩ f (Zs Zn 0 0) (Zs Zn 0 0):=by refine⟨?_,⟨Zn,0,rfl,by simp[maxLen],fun s d=>by simp at d,fun h=>absurd rfl h⟩,⟨_,_,_,rfl,Nat.le_refl _⟩,⟨Zn,0,rfl,by simp[maxLen],fun h=>absurd rfl h⟩,⟨_,_,_,rfl,Nat.le_refl _⟩⟩;rw[i];exact (Zh _ _ _ (by simpa using l)).trans (lF (lF h.rst.box _) _)
 have q:Hid (Calls prog 183 _ W _):=ug S m n _ _ W (h.names.keep d (fun _ h=>h)) ⟨_,_,_,rfl,h.cap⟩ (h.kids.keepN d (fun _ h=>h));have t:Hid (hh S m b n r f 70 w (Zr (Zb (iH (jT m) n))) W):=by
  refine⟨a,?_⟩;cases ha:iH (jT m) n with
  | true=>exact .inl ⟨_,_,_,(FR _ n r).trans (if_pos ha),rfl,c⟩
  | false=>exact .inr ⟨(FR _ n r).trans (if_neg (by rw[ha];decide)),rfl⟩
 generalize iH (jT m) n=ok at *;clear h c a d;subst i;go_in;go_wp2_with fail;refine q.out.mono ?_;rintro e w1 ⟨rfl,rfl⟩;go_wp2;go_ret;exact t.out
theorem AU (S:Nat->Prop) (w:Zw) (m q d:Nat) (n r:Nd (T m)) (s v3 v4:Zv) (na x:Option Addr) (u t:Nat) (h:xj S w m q d n r s v3 v4 na x u t) :
  Calls prog 147 #[Zp (Zo ⟨q,0,Zn⟩),Zp (Zo ⟨d,0,Zn⟩),Zi .i32 35,Za #[Zi Zk n.sort,Zi Zk n.num,Zt n.text,Zs na n.names.length u,Zs x n.kids.length t]] w (hh S m d n r s 35 w):=by
 obtain⟨⟨M,N,P,O⟩,f1,f2,f3,f4⟩:=h.rst.cells;have l:=h.rst.lt;have J:w.heap.size≠d:=om;obtain⟨W,g⟩:=iw ((w.setCell ⟨d,1,Zn⟩ (Zi Zk 0)).alloc (Zc #[Zi Zk n.sort,Zi Zk n.num,Zt n.text,Zs na n.names.length u,Zs x n.kids.length t] 40));have a:b7 d w W:=by rw[g];exact (b7.set d 1 _ _).trans (b7.alloc _ _ _)
 have y:=a.same h.bnd;have f:vJ S W m d ⟨r.sort,0,r.text,r.names,r.kids⟩ s v3 v4:=by refine⟨?_,h.rst.n3.keep y (fun _ h=>h),h.rst.k3,h.rst.n4.keepN y (fun _ h=>h),h.rst.k4⟩;rw[g];exact (Zh _ _ _ (by simpa using l)).trans (lF h.rst.box _)
 obtain⟨k,G⟩:∃k:Nat,n.sort=(k:Int):=⟨n.sort.toNat,by have:=h.op;omega⟩;have i:k<44:=by have:=h.op;omega
 have c:kz W q:=h.book.keep (a.block q h.book.lt h.ne);obtain⟨B,F,C,D⟩:=c k i;have E:Hid (∀w,Calls prog 182 #[Za #[Zt (km k),Zt (bs (jz k)),Zi Zk (lst k),Zi Zk (tX k)],Zi Zk n.num] w _):=fun w=>D5 (km k) (bs (jz k)) (lst k) (tX k) n.num w;have H:Hid (∀v,Bw W v->hh S m d n r s 35 w (Zr (Zb (decide (lst k<=n.num/\n.num<=tX k)))) v):=by
  intro v z;refine⟨a.trans (b7.of_below z),?_⟩;have e:n.sort.toNat=k:=om;by_cases p:lst k<=n.num/\n.num<=tX k;·rw[decide_eq_true p];exact .inl ⟨_,v3,v4,(AD _ n r).trans (if_pos (by rw[e];exact p)),rfl,f.keep (fun b K=>z.block b (Zd (h.bnd b K).1 a.size)) (z.block d (Zd l a.size))⟩
  ·rw[decide_eq_false p];exact .inr ⟨(AD _ n r).trans (if_neg (by rw[e];exact p)),rfl⟩
 rw[G]at g ⊢;generalize decide (lst k<=n.num/\n.num<=tX k)=ok at *;have z0:W.cell? ⟨w.heap.size,0,Zn⟩=Zo (Zi Zk (k:Int)):=by rw[g];simp[go_sem]
 have L:W.cell? ⟨w.heap.size,1,Zn⟩=Zo (Zi Zk n.num):=by rw[g];simp[go_sem]
 have A:=a7 g;rw[g]at B F C D;clear h f a y c g G z0 L;go_in;go_wp2_with fail;go_region_with (first|(go_at_call 182;refine (E.out _).mono ?_;rintro e w1 ⟨rfl,o⟩));all_goals
  have j:Bw W w1:=by rw[A.out];exact zt o
  have I:=a7 (H.out w1 j)
  clear o j H E B F C D A
  go_wp2
  go_ret
  exact I.out
theorem lS(S:Nat->Prop)(w:Zw)(m:Nat)(x:Int)(a:(Lit.int Zk x).wf=true):a8 S w (m+1) (⟨x,[],[]⟩:Kd (K m)) (Zi Zk x) (Zs Zn 0 0) (Zs Zn 0 0):=
 ⟨rfl,a,⟨Zn,0,rfl,by simp[maxLen],fun s h=>(by cases h),fun h=>absurd rfl h⟩,⟨Zn,0,rfl,by simp[maxLen],fun h=>absurd rfl h⟩⟩
theorem iJ {N:Nat} (h:w.heap[N]?=Zo (Zc #[Zi Zk 0,Zs Zn 0 0,Zs Zn 0 0] 31 (0,0))) :
  (w.cell? ⟨N,0,Zn⟩=Zo (Zi Zk 0)/\w.cell? ⟨N,1,Zn⟩=Zo (Zs Zn 0 0)/\w.cell? ⟨N,2,Zn⟩=Zo (Zs Zn 0 0)) /\
   w.frozen? ⟨N,0,Zn⟩=false/\w.frozen? ⟨N,1,Zn⟩=false/\w.frozen? ⟨N,2,Zn⟩=false:=by refine⟨⟨?_,?_,?_⟩,?_,?_,?_⟩<;>simp[World.cell?,World.frozen?,h]
theorem Cg (n m R:Nat) (s:ByteArray) (i:Nat) (bad:Bool) (w:Zw) (h:jb w R s i bad) (b:bad=true∨n=0) (hi:bad=false->i<=s.size) :
  Calls prog 146 #[Zp (Zo ⟨R,0,Zn⟩),Zi Zk (7-(n:Int))] w (gP (m+1) n w R s i bad):=by
 have k:=h.lt;have d:pA (m+1) n s i bad (⟨0,[],[]⟩:Kd (K m)) i true:=by
  refine⟨Nat.le_refl _,fun h=>(by cases h),fun c=>(by have:=hi c;omega),fun _=>rfl,fun t0 e c l j=>?_⟩;rcases b with b|b;·rw[b]at c;cases c
  ·subst b;simp[fK]at j
 have f:Hid (∀o,gP (m+1) n w R s i bad (Zr (Za #[Zi Zk 0,Zs Zn 0 0,Zs Zn 0 0])) ((w.setCell ⟨R,2,Zn⟩ (Zb true)).alloc o)):=fun o=>⟨(b7.set R 2 w _).trans (b7.alloc _ _ _),_,_,_,_,i,true,rfl,lS _ _ m 0 rfl,(Zh _ _ _ (by simpa using k)).trans (h.set2 true),d⟩;have c2:=h.cell2;have fz:=h.free 2;have a:bad=false->(6:Int)<7-(n:Int):=fun c=>by
  rcases b with b|b;·rw[b]at c;cases c
  ·omega
 clear d h;cases bad with
 | true=>clear a hi;go_in;go_wp2_with fail;refine bodyPost_ret (v:=Za #[Zi Zk 0,Zs Zn 0 0,Zs Zn 0 0]) (by simp[results,results146,go_sem]) rfl ?_;exact f.out _
 | false=>have g:=a rfl;clear a hi;go_in;go_wp2_with fail;refine bodyPost_ret (v:=Za #[Zi Zk 0,Zs Zn 0 0,Zs Zn 0 0]) (by simp[results,results146,go_sem]) rfl ?_;exact f.out _
theorem Il (n m R:Nat) (s:ByteArray) (i:Nat) (w:Zw) (h:jb w R s i false) (L:s.size<=10000) (hi:i<=s.size) (u:fT s i=110) :
  Calls prog 146 #[Zp (Zo ⟨R,0,Zn⟩),Zi Zk (7-((n+1:Nat):Int))] w (gP (m+1) (n+1) w R s i false):=by
 have A:=h.lt;obtain⟨N,j,F,c2,B⟩:=lL (k:=110) (Zc #[Zi Zk 0,Zs Zn 0 0,Zs Zn 0 0] 31) h (by rw[u];rfl);have r:¬(6:Int)<7-((n+1:Nat):Int):=om;have f:Hid (fT s i=110):=u;clear h u;generalize D:7-((n+1:Nat):Int)=dp at *;go_in;go_wp2_with fail;rw[<- j];clear j c2;refine B.out.mono ?_;rintro e z ⟨rfl,d,l,G,a⟩;have y:Hid (Calls prog 178 #[Zp (Zo ⟨R,0,Zn⟩),Zt ⟨#[110,117,109]⟩] z _):=lG z R s ⟨#[110,117,109]⟩ i false l L zC hi;clear B l;go_wp2_with fail;refine y.out.mono ?_;rintro e E ⟨rfl,b,g⟩;have J:=b.size;obtain⟨⟨M,C,I⟩,f0,f1,f2⟩:=iJ ((b.block w.heap.size om om).trans a);have K:Hid (gP (m+1) (n+1) w R s i false (Zr (Za #[Zi Zk 1,Zs Zn 0 0,Zs Zn 0 0])) (ij E w.heap.size 0 (Zi Zk 1) (Zs Zn 0 0) (Zs Zn 0 0))):=by
  rcases g with ⟨t,H,q⟩|⟨t,q⟩;·exact lI (d.trans b) A q (lS _ _ m 1 rfl) (mS (x:=⟨#[110,117,109]⟩) hi (.inl ⟨t,H,rfl,rfl⟩) zC (fun t0 c p o=>Ci f.out t0 c p o))
  ·exact lI (d.trans b) A q (lS _ _ m 1 rfl) (mS (x:=⟨#[110,117,109]⟩) hi (.inr ⟨t,rfl,rfl⟩) zC (fun t0 c p o=>Ci f.out t0 c p o))
 clear y g b d a;go_wp2_with fail;refine bodyPost_ret (v:=Za #[Zi Zk 1,Zs Zn 0 0,Zs Zn 0 0]) (by simp[results,results146,go_sem,M,C,I]) rfl ?_;exact K.out
theorem G4 (n m R:Nat) (s:ByteArray) (i:Nat) (w:Zw) (h:jb w R s i false) (L:s.size<=10000) (hi:i<=s.size) (u:fT s i=116) :
  Calls prog 146 #[Zp (Zo ⟨R,0,Zn⟩),Zi Zk (7-((n+1:Nat):Int))] w (gP (m+1) (n+1) w R s i false):=by
 have A:=h.lt;obtain⟨N,j,F,c2,B⟩:=lL (k:=116) (Zc #[Zi Zk 0,Zs Zn 0 0,Zs Zn 0 0] 31) h (by rw[u];rfl);have r:¬(6:Int)<7-((n+1:Nat):Int):=om;have f:Hid (fT s i=116):=u;clear h u;generalize D:7-((n+1:Nat):Int)=dp at *;go_in;go_wp2_with fail;rw[<- j];clear j c2;refine B.out.mono ?_;rintro e z ⟨rfl,d,l,G,a⟩;have y:Hid (Calls prog 178 #[Zp (Zo ⟨R,0,Zn⟩),Zt ⟨#[116,101,120,116]⟩] z _):=lG z R s ⟨#[116,101,120,116]⟩ i false l L zC hi;clear B l;go_wp2_with fail;refine y.out.mono ?_;rintro e E ⟨rfl,b,g⟩;have J:=b.size;obtain⟨⟨M,C,I⟩,f0,f1,f2⟩:=iJ ((b.block w.heap.size om om).trans a);have K:Hid (gP (m+1) (n+1) w R s i false (Zr (Za #[Zi Zk 2,Zs Zn 0 0,Zs Zn 0 0])) (ij E w.heap.size 0 (Zi Zk 2) (Zs Zn 0 0) (Zs Zn 0 0))):=by
  rcases g with ⟨t,H,q⟩|⟨t,q⟩;·exact lI (d.trans b) A q (lS _ _ m 2 rfl) (mS (x:=⟨#[116,101,120,116]⟩) hi (.inl ⟨t,H,rfl,rfl⟩) zC (fun t0 c p o=>yy f.out t0 c p o))
  ·exact lI (d.trans b) A q (lS _ _ m 2 rfl) (mS (x:=⟨#[116,101,120,116]⟩) hi (.inr ⟨t,rfl,rfl⟩) zC (fun t0 c p o=>yy f.out t0 c p o))
 clear y g b d a;go_wp2_with fail;refine bodyPost_ret (v:=Za #[Zi Zk 2,Zs Zn 0 0,Zs Zn 0 0]) (by simp[results,results146,go_sem,M,C,I]) rfl ?_;exact K.out
theorem GL (n m R:Nat) (s:ByteArray) (i:Nat) (w:Zw) (h:jb w R s i false) (L:s.size<=10000) (hi:i<=s.size) (u:fT s i=102) :
  Calls prog 146 #[Zp (Zo ⟨R,0,Zn⟩),Zi Zk (7-((n+1:Nat):Int))] w (gP (m+1) (n+1) w R s i false):=by
 have A:=h.lt;obtain⟨N,j,F,c2,B⟩:=lL (k:=102) (Zc #[Zi Zk 0,Zs Zn 0 0,Zs Zn 0 0] 31) h (by rw[u];rfl);have r:¬(6:Int)<7-((n+1:Nat):Int):=om;have f:Hid (fT s i=102):=u;clear h u;generalize D:7-((n+1:Nat):Int)=dp at *;go_in;go_wp2_with fail;rw[<- j];clear j c2;refine B.out.mono ?_;rintro e z ⟨rfl,d,l,G,a⟩;have y:Hid (Calls prog 178 #[Zp (Zo ⟨R,0,Zn⟩),Zt ⟨#[102,108,97,103]⟩] z _):=lG z R s ⟨#[102,108,97,103]⟩ i false l L zC hi;clear B l;go_wp2_with fail;refine y.out.mono ?_;rintro e E ⟨rfl,b,g⟩;have J:=b.size;obtain⟨⟨M,C,I⟩,f0,f1,f2⟩:=iJ ((b.block w.heap.size om om).trans a);have K:Hid (gP (m+1) (n+1) w R s i false (Zr (Za #[Zi Zk 3,Zs Zn 0 0,Zs Zn 0 0])) (ij E w.heap.size 0 (Zi Zk 3) (Zs Zn 0 0) (Zs Zn 0 0))):=by
  rcases g with ⟨t,H,q⟩|⟨t,q⟩;·exact lI (d.trans b) A q (lS _ _ m 3 rfl) (mS (x:=⟨#[102,108,97,103]⟩) hi (.inl ⟨t,H,rfl,rfl⟩) zC (fun t0 c p o=>zs f.out t0 c p o))
  ·exact lI (d.trans b) A q (lS _ _ m 3 rfl) (mS (x:=⟨#[102,108,97,103]⟩) hi (.inr ⟨t,rfl,rfl⟩) zC (fun t0 c p o=>zs f.out t0 c p o))
 clear y g b d a;go_wp2_with fail;refine bodyPost_ret (v:=Za #[Zi Zk 3,Zs Zn 0 0,Zs Zn 0 0]) (by simp[results,results146,go_sem,M,C,I]) rfl ?_;exact K.out
theorem Cb {x:Int} {t:K m} {c:Nat} {c0 c1 c2:Zv} (f:(Lit.int Zk x).wf=true) (j:S b) (g:w.cell? ⟨b,0,Zn⟩=Zo c0) (d:w.cell? ⟨b,1,Zn⟩=Zo c1) (a:w.cell? ⟨b,2,Zn⟩=Zo c2) (e:a8 S w m t c0 c1 c2) :
  a8 S w (m+1) (⟨x,[],[t]⟩:Kd (K m)) (Zi Zk x) (Zs Zn 0 0) (Zs (Zo ⟨b,0,Zn⟩) 1 c):=by
 refine⟨rfl,f,⟨Zn,0,rfl,by simp[maxLen],fun s h=>(by cases h),fun h=>absurd rfl h⟩,⟨Zo ⟨b,0,Zn⟩,c,rfl,by simp[maxLen],fun _=>⟨b,0,rfl,j,fun i hi=>?_⟩⟩⟩;have:i=0:=by simpa using hi
 subst this;exact⟨c0,c1,c2,by simpa using g,by simpa using d,by simpa using a,e⟩
theorem E1 (n:Nat) (U:kY n) (m R:Nat) (s:ByteArray) (i:Nat) (w:Zw) (hm:n+1<=m) (ae:n<=6) (h:jb w R s i false) (Y:s.size<=10000) (hi:i<=s.size) (G:fT s i=63) :
  Calls prog 146 #[Zp (Zo ⟨R,0,Zn⟩),Zi Zk (7-((n+1:Nat):Int))] w (gP (m+1) (n+1) w R s i false):=by
 have hR:=h.lt;obtain⟨W1,A,ac,c2,O⟩:=lL (Zc #[Zi Zk 0,Zs Zn 0 0,Zs Zn 0 0] 31) h rfl;have L:¬(6:Int)<7-((n+1:Nat):Int):=om;have N:Hid (fT s i=63):=G;have q:Hid (_/\_):=yS G zC;have V:((fT s i).toNat:Nat)=63:=by rw[G];rfl
 rw[V]at O;have af:IntKind.i64.wrap (7-((n+1:Nat):Int)+1)=7-(n:Int):=by rw[IntKind.wrap_i64];omega
 have X:Hid (kY n):=U;clear h G V U;generalize M:7-((n+1:Nat):Int)=dp at *;clear M;go_in;go_wp2_with fail;rw[<- A];clear A c2;refine O.out.mono ?_;rintro e S ⟨rfl,x,y,ad,d⟩;have Q:Hid (Calls prog 178 #[Zp (Zo ⟨R,0,Zn⟩),Zt ⟨#[63]⟩] S _):=lG S R s ⟨#[63]⟩ i false y Y zC hi;clear O y;go_wp2_with fail;refine Q.out.mono ?_;rintro e C ⟨rfl,g,⟨r,q2,u⟩|⟨r,u⟩⟩;case inr=>have r:gA [63] (s.data.toList.drop i)=Zn:=r;rw[q.out.1]at r;cases r
 have u:jb C R s ((i+1:Nat):Int) false:=u;have ab:=g.size;have c:=(g.block w.heap.size om om).trans d;have l:=x.trans g;have W:=q.out.2;have P:Hid (Calls prog 146 #[Zp (Zo ⟨R,0,Zn⟩),Zi Zk (7-(n:Int))] C (gP m n C R s (i+1) false)):=X.out m R s (i+1) false C hm u Y (fun _=>om) om;clear Q x g d r q2 u X q;go_wp2_with fail;refine P.out.mono ?_;rintro e p ⟨j,t,d0,d1,d2,i1,Z,rfl,K,o,T⟩;obtain⟨I,B,J,F,D,E,H,rfl,rfl,rfl⟩:=K.shape;have aa:=j.size;have a:=(j.block w.heap.size om om).trans c;have k:=l.trans j;clear P c l;have f:=jX.new p (Zi Zk I) (Zs B J F) (Zs D E H) 31;have z:b7 R w (p.alloc (Zc #[Zi Zk I,Zs B J F,Zs D E H] 31)):=k.trans (b7.alloc _ _ _);obtain⟨⟨r0,r1,r2⟩,f0,f1,f2⟩:=iJ ((Zh p (Zc #[Zi Zk I,Zs B J F,Zs D E H] 31) w.heap.size om).trans a);have HP:Hid (gP (m+1) (n+1) w R s i false (Zr (Za #[Zi Zk 6,Zs Zn 0 0,Zs (Zo ⟨p.heap.size,0,Zn⟩) 1 1])) (ij (p.alloc (Zc #[Zi Zk I,Zs B J F,Zs D E H] 31)) w.heap.size 0 (Zi Zk 6) (Zs Zn 0 0) (Zs (Zo ⟨p.heap.size,0,Zn⟩) 1 1))):=by refine lI z hR ((Zh _ _ _ (by have:=o.lt;omega)).trans o) (Cb (t:=t) rfl ⟨om,zS⟩ f.c0 f.c1 f.c2 ?_) (Ee N.out T);exact K.keep (fun b hb=>Zh _ _ _ hb.2) (fun b hb=>⟨om,zE⟩)
 clear o T K f z a k j;go_wp2_with fail;refine bodyPost_ret (v:=Za #[Zi Zk 6,Zs Zn 0 0,Zs (Zo ⟨p.heap.size,0,Zn⟩) 1 1]) (by simp[results,results146,go_sem,r0,r1,r2]) rfl ?_;exact HP.out
theorem GG (n:Nat) (J:kY n) (m R:Nat) (s:ByteArray) (i:Nat) (w:Zw) (hm:n+1<=m) (al:n<=6) (h:jb w R s i false) (hs:s.size<=10000) (hi:i<=s.size) (hl:fT s i=91) :
  Calls prog 146 #[Zp (Zo ⟨R,0,Zn⟩),Zi Zk (7-((n+1:Nat):Int))] w (gP (m+1) (n+1) w R s i false):=by
 have hR:=h.lt;obtain⟨W1,aa,aj,c2,HL⟩:=lL (Zc #[Zi Zk 0,Zs Zn 0 0,Zs Zn 0 0] 31) h rfl;have ab:¬(6:Int)<7-((n+1:Nat):Int):=om;have M:Hid (fT s i=91):=hl;have I:Hid (_/\_):=yS hl zC;have N:((fT s i).toNat:Nat)=91:=by rw[hl];rfl
 rw[N]at HL;have am:IntKind.i64.wrap (7-((n+1:Nat):Int)+1)=7-(n:Int):=by rw[IntKind.wrap_i64];omega
 have HN:Hid (kY n):=J;clear h hl N J;generalize ac:7-((n+1:Nat):Int)=dp at *;clear ac;go_in;go_wp2_with fail;rw[<- aa];clear aa c2;refine HL.out.mono ?_;rintro e w2 ⟨rfl,T,V,ak,l⟩;have HE:Hid (Calls prog 178 #[Zp (Zo ⟨R,0,Zn⟩),Zt ⟨#[91]⟩] w2 _):=lG w2 R s ⟨#[91]⟩ i false V hs zC hi;clear HL V;go_wp2_with fail;refine HE.out.mono ?_;rintro e P ⟨rfl,A,⟨x,q2,r⟩|⟨x,r⟩⟩;case inr=>have x:gA [91] (s.data.toList.drop i)=Zn:=x;rw[I.out.1]at x;cases x
 have r:jb P R s ((i+1:Nat):Int) false:=r;have ah:=A.size;have k:=(A.block w.heap.size om om).trans l;have G:=T.trans A;have ae:=I.out.2;have HK:Hid (Calls prog 146 #[Zp (Zo ⟨R,0,Zn⟩),Zi Zk (7-(n:Int))] P (gP m n P R s (i+1) false)):=HN.out m R s (i+1) false P hm r hs (fun _=>om) om;clear HE T A l x q2 r HN I;go_wp2_with fail;refine HK.out.mono ?_;rintro e c ⟨C,t,d0,d1,d2,D,g,rfl,ht,z,hG⟩;obtain⟨u0,O,ul,Y,U,W,yc,rfl,rfl,rfl⟩:=ht.shape;have af:=C.size;have j:=(C.block w.heap.size om om).trans k;have F:=G.trans C;clear HK k G;obtain⟨p,q⟩:=iw ((c.alloc (Zc #[Zi Zk u0,Zs O ul Y,Zs U W yc] 31)).alloc (Zc #[Zi Zk 4,Zs Zn 0 0,Zs (Zo ⟨c.heap.size,0,Zn⟩) 1 1] 31));have an:p.heap.size=c.heap.size+2:=by rw[q];simp
 have f:Bw c p:=by rw[q];exact (gF _ _).alloc zS _
 have y:jX p c.heap.size (Zi Zk u0) (Zs O ul Y) (Zs U W yc):=by rw[q];exact (jX.new c (Zi Zk u0) (Zs O ul Y) (Zs U W yc) 31).keep (gF _ _)
 have u:jX p (c.heap.size+1) (Zi Zk 4) (Zs Zn 0 0) (Zs (Zo ⟨c.heap.size,0,Zn⟩) 1 1):=by have:=jX.new (c.alloc (Zc #[Zi Zk u0,Zs O ul Y,Zs U W yc] 31)) (Zi Zk 4) (Zs Zn 0 0) (Zs (Zo ⟨c.heap.size,0,Zn⟩) 1 1) 31;rw[q];simpa using this
 have L:jb p R s D g:=(f.block R z.lt).trans z;have ag:=z.lt;obtain⟨g1,g2,g3,g4,g5⟩:=id hG;have g3:=g3 rfl;have HG:Hid (pA m n s (i+1) false t D g):=hG;have X:Hid (Calls prog 178 #[Zp (Zo ⟨R,0,Zn⟩),Zt ⟨#[93]⟩] p fun e H=>e=Zr (.tuple #[])/\b7 R p H/\∃(i':Nat)(E:Bool),jb H R s i' E/\pA (m+1) (n+1) s i false (⟨4,[],[t]⟩:Kd (K m)) i' E):=by
  by_cases Z:D<=s.size
  ·refine (lG p R s ⟨#[93]⟩ D g L hs zC Z).mono ?_;rintro e H ⟨rfl,J,⟨x,q2,r⟩|⟨x,r⟩⟩;·exact⟨rfl,J,D+1,g,r,tR M.out HG.out (.inl ⟨x,q2,rfl,rfl⟩)⟩
   ·exact⟨rfl,J,D,true,r,tR M.out HG.out (.inr ⟨fun _=>x,rfl,rfl⟩)⟩
  ·refine (GD p R s ⟨#[93]⟩ D g L zC (by have:(⟨#[93]⟩:ByteArray).size=1:=rfl;omega) om).mono ?_;rintro e H ⟨rfl,J,r⟩;exact⟨rfl,J,D,true,r,tR M.out HG.out (.inr ⟨fun hf=>absurd (g2 hf).2.2 Z,rfl,rfl⟩)⟩
 have HT:Hid (a8 (fun b=>P.heap.size<=b/\b<c.heap.size) c m t (Zi Zk u0) (Zs O ul Y) (Zs U W yc)):=ht;clear hG z L ht g1 g2 g3 g4 g5;go_wp2_with fail;rw[<- q];clear q;refine X.out.mono ?_;rintro e B ⟨rfl,d,i2,ad,Q,S⟩;have ai:=d.size;have y6:=u.c0;have k0:B.cell? ⟨c.heap.size+1,0,Zn⟩=Zo (Zi Zk 4):=(World.cell?_of_block (w:=p) (w':=B) (a:=⟨c.heap.size+1,0,Zn⟩) (d.block (c.heap.size+1) om om)).trans u.c0;have k1:B.cell? ⟨c.heap.size+1,1,Zn⟩=Zo (Zs Zn 0 0):=(World.cell?_of_block (w:=p) (w':=B) (a:=⟨c.heap.size+1,1,Zn⟩) (d.block (c.heap.size+1) om om)).trans u.c1;have k2:B.cell? ⟨c.heap.size+1,2,Zn⟩=Zo (Zs (Zo ⟨c.heap.size,0,Zn⟩) 1 1):=(World.cell?_of_block (w:=p) (w':=B) (a:=⟨c.heap.size+1,2,Zn⟩) (d.block (c.heap.size+1) om om)).trans u.c2;obtain⟨⟨r0,r1,r2⟩,f0,f1,f2⟩:=iJ ((d.block w.heap.size om om).trans ((f.block _ om).trans j));have HP:Hid (gP (m+1) (n+1) w R s i false (Zr (Za #[Zi Zk 4,Zs Zn 0 0,Zs (Zo ⟨c.heap.size,0,Zn⟩) 1 1])) (ij B w.heap.size 0 (Zi Zk 4) (Zs Zn 0 0) (Zs (Zo ⟨c.heap.size,0,Zn⟩) 1 1))):=by have N:∀o,B.cell? ⟨c.heap.size,o,Zn⟩=p.cell? ⟨c.heap.size,o,Zn⟩:=fun o=>World.cell?_of_block (w:=p) (w':=B) (a:=⟨c.heap.size,o,Zn⟩) (d.block c.heap.size om om);refine lI ((F.trans (b7.of_below f)).trans d) hR Q (Cb (t:=t) rfl ⟨om,om⟩ ((N 0).trans y.c0) ((N 1).trans y.c1) ((N 2).trans y.c2) ?_) S;refine HT.out.keep (fun b hb=>?_) (fun b hb=>⟨om,om⟩);rw[d.block b om om,f.block b hb.2]
 clear X d Q S y u y6 f j F C HT HG;go_wp2_with fail;refine bodyPost_ret (v:=Za #[Zi Zk 4,Zs Zn 0 0,Zs (Zo ⟨c.heap.size,0,Zn⟩) 1 1]) (by simp[results,results146,go_sem,r0,r1,r2]) rfl ?_;exact HP.out
end Go.Proofs.YtcfojmaccikgeaaGreatDoor
