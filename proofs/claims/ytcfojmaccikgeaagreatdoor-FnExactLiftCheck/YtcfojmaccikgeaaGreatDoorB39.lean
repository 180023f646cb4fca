import Derived.Test.YtcfojmaccikgeaaGreatDoorB9
import Derived.Test.YtcfojmaccikgeaaGreatDoorB38
import Derived.Deep.Upon
open Go.Value renaming slice→Zs,int→Zi,string→Zt,pointer→Zp,tuple→Zu,bool→Zb
open Go.IntKind renaming i64→Zk
open Go.Ending renaming returned→Zr
open Go.Obj renaming cells→Zc
open Option renaming none→Zn,some→Zo
open Go renaming World→Zw,Value→Zv
open List renaming mem_cons_of_mem→ZB
open Array renaming getElem?_eq_some_iff→ZF
namespace Go.Proofs.YtcfojmaccikgeaaGreatDoor
open Go.RowKit Go.Proofs.Tryz
set_option maxRecDepth 100000
set_option maxHeartbeats 16000000
variable {w w':Zw} {g i n base T cap F O L B G M:Nat} {x z v:Zv} {xs ys:List Zv} {ρ:Go.Shelf.Ren} {a:ZO} {α β:Type} {S:ZP}
theorem kS{k:Nat}{b:Nat}(a:k<=b):∀(c:List Zv)(o:Nat){V:Zw},Below k w V->Below k w (V.setCells b o c)
 | [],_,_,h=>h
 | v :: r,o,V,h=>by rw[World.setCells];exact kS a r (o+1) (h.setCell a _)
theorem jP(b:Nat):∀(a:List Zv)(o:Nat)(w:Zw),(w.setCells b o a).heap.size=w.heap.size
 | [],_,_=>rfl
 | v :: r,o,w=>by rw[World.setCells,jP b r];simp[World.setCell]
theorem Df (hi:i<=n) (m:xs.length=n) (e:∀ j v,xs[j]?=Zo v->w.cell? ⟨g,j,Zn⟩=Zo v) (c:∀ j,j<n+1->(w.cell? ⟨g,j,Zn⟩).isSome=true) :
  ∀j v,(xs.take i++x :: xs.drop i)[j]?=Zo v->((w.setCells g (i+1) (xs.drop i)).setCells g i [x]).cell? ⟨g,j,Zn⟩=Zo v:=by
 intro j v a;have f:(xs.drop i).length=n-i:=by rw[List.length_drop,m]
 have b:∀j,j<(xs.drop i).length->(w.cell? ⟨g,i+1+j,Zn⟩).isSome=true:=fun j a=>c _ om;rcases Nat.lt_trichotomy j i with h|h|h;·rw[World.cell?_setCells_out g _ _ _ _ (fun _ _=>.inl h),World.cell?_setCells_out g _ _ _ _ (fun _ _=>.inl (by show j<i+1;omega))];rw[List.getElem?_append_left (by rw[List.length_take];omega),List.getElem?_take_of_lt h]at a;exact e j v a
 ·subst h;rw[List.getElem?_append_right (by rw[List.length_take];omega),List.length_take,show j-min j xs.length=0 by omega]at a;simp only[List.getElem?_cons_zero,Option.some.injEq]at a;subst a
  exact World.cell?_setCells_in g [x] j _ (fun k l=>by obtain rfl:k=0:=(by simpa using l);exact isSome_setCells g _ _ _ b _ (c j om)) 0 zS
 ·rw[World.cell?_setCells_out g _ _ _ _ (fun _ _=>.inr (by show i+1<=j;omega))];rw[List.getElem?_append_right (by rw[List.length_take];omega),List.length_take,show j-min i xs.length=(j-i-1)+1 by omega,List.getElem?_cons_succ]at a;obtain⟨d,o⟩:=List.getElem?_eq_some_iff.1 a;have:=World.cell?_setCells_in g (xs.drop i) (i+1) w b (j-i-1) d;rw[show i+1+(j-i-1)=j by omega,o]at this;exact this
theorem AA (hi:i<=n) (l:xs.length=n) (f:∀ j v,j<i->xs[j]?=Zo v->w.cell? ⟨g,j,Zn⟩=Zo v) (c:∀ j,j<n+1->(w.cell? ⟨g,j,Zn⟩).isSome=true) :
  ∀j v,(xs.take i++x :: xs.drop i)[j]?=Zo v->((w.setCells g i [x]).drew.setCells g (i+1) (xs.drop i)).cell? ⟨g,j,Zn⟩=Zo v:=by
 intro j v a;have k:(xs.drop i).length=n-i:=by rw[List.length_drop,l]
 have b:∀j,j<[x].length->(w.cell? ⟨g,i+j,Zn⟩).isSome=true:=fun j a=>c _ (by simp at a;omega);have e:∀j,j<(xs.drop i).length->((w.setCells g i [x]).drew.cell? ⟨g,i+1+j,Zn⟩).isSome=true:=fun j a=>isSome_setCells g _ _ _ b _ (c _ om);rcases Nat.lt_trichotomy j i with h|h|h;·rw[World.cell?_setCells_out g _ _ _ _ (fun _ _=>.inl (by show j<i+1;omega))];refine (World.cell?_setCells_out g [x] i w ⟨g,j,Zn⟩ (fun _ _=>.inl h)).trans ?_;rw[List.getElem?_append_left (by rw[List.length_take];omega),List.getElem?_take_of_lt h]at a;exact f j v h a
 ·subst h;rw[List.getElem?_append_right (by rw[List.length_take];omega),List.length_take,show j-min j xs.length=0 by omega]at a;simp only[List.getElem?_cons_zero,Option.some.injEq]at a;subst a;rw[World.cell?_setCells_out g _ _ _ _ (fun _ _=>.inl (by show j<j+1;omega))];exact World.cell?_setCells_in g [x] j w b 0 zS
 ·rw[List.getElem?_append_right (by rw[List.length_take];omega),List.length_take,show j-min i xs.length=(j-i-1)+1 by omega,List.getElem?_cons_succ]at a;obtain⟨d,m⟩:=List.getElem?_eq_some_iff.1 a;have:=World.cell?_setCells_in g (xs.drop i) (i+1) (w.setCells g i [x]).drew e (j-i-1) d;rw[show i+1+(j-i-1)=j by omega,m]at this;exact this
def xQ(base g0:Nat)(w:Zw)(a:List Zv)(e:Ending)(w':Zw):Prop:=
 ∃g cap,e=Zr (Zs (Zo ⟨g,0,Zn⟩) a.length cap)/\base<=g/\g<w'.heap.size/\Below base w w' /\ (∀j v,a[j]?=Zo v->w'.cell? ⟨g,j,Zn⟩=Zo v)/\(∀b,b<w.heap.size->b≠g0->w'.heap[b]?=w.heap[b]?)/\(g=g0∨w.heap.size<=g)
theorem vB{g0:Nat}{T:TypeId}(h:w'.ownsRow base T 1 (Zs (Zo ⟨g,0,Zn⟩) n cap) n ys)(r:Below base w w')(m:g<w'.heap.size)(u:∀b,b<w.heap.size->b≠g0->w'.heap[b]?=w.heap[b]?)(e:g=g0∨w.heap.size<=g):xQ base g0 w ys (Zr (Zs (Zo ⟨g,0,Zn⟩) n cap)) w':=by
 obtain⟨p,⟨h,-⟩|⟨y,o,d,h,f,a,x,s,i,c⟩⟩:=h;·cases h
 injection h with h _ q;injection h with h;injection h with h;subst h q;simp only[Nat.mul_one]at p i c;refine⟨g,cap,by rw[p],f,m,r,fun j v k=>?_,u,e⟩;have t:=(List.getElem?_eq_some_iff.1 k).1;rw[<- c,List.getElem?_take_of_lt om]at k;have l:d[j]?=Zo v:=by rw[<- Array.getElem?_toList];exact k
 simp[World.cell?,a,l]
def ml(F O T L B:Nat)(z:Zv):Prop:=
 (F=201/\O=220/\T=9/\L=23/\B=16/\z=Zt ⟨#[]⟩) ∨
 (F=202/\O=222/\T=82/\L=116/\B=8/\z=Zp Zn)
theorem tS:ml 201 220 9 23 16 (Zt ⟨#[]⟩):=.inl ⟨rfl,rfl,rfl,rfl,rfl,rfl⟩
theorem tK:ml 202 222 82 116 8 (Zp Zn):=.inr ⟨rfl,rfl,rfl,rfl,rfl,rfl⟩
theorem ml.inf(h:ml F O T L B z):(prog.info? T).map (fun i=>(i.zero,i.size,i.bytes))=Zo (Zo z,1,B):=by rcases h with ⟨rfl,rfl,rfl,rfl,rfl,rfl⟩|⟨rfl,rfl,rfl,rfl,rfl,rfl⟩<;>kernel_rfl
theorem ml.und(h:ml F O T L B z):prog.underlying L=Zo (.slice T):=by rcases h with ⟨rfl,rfl,rfl,rfl,rfl,rfl⟩|⟨rfl,rfl,rfl,rfl,rfl,rfl⟩<;>kernel_rfl
theorem ml.sz(h:ml F O T L B z):∀w,Sem.run prog (sizeOf T) w=.ok 1 w:=by
 rcases h with ⟨rfl,rfl,rfl,rfl,rfl,rfl⟩|⟨rfl,rfl,rfl,rfl,rfl,rfl⟩;·exact sizeOf9
 ·exact sizeOf82
theorem ml.ov(h:ml F O T L B z)(args:Array Zv)(w:Zw):(callFunc O args).run prog w=((Extern.SlicesOverlaps.overlaps #[L,L] #[4] args).run prog w).andThen fun v a=>.ok (.value v) a:=by
 rcases h with ⟨rfl,rfl,rfl,rfl,rfl,rfl⟩|⟨rfl,rfl,rfl,rfl,rfl,rfl⟩;·exact run_callFunc_extern func220 zK zK zK zK _ _
 ·exact run_callFunc_extern func222 zK zK zK zK _ _
theorem ml.le(h:ml F O T L B z):B<=16/\1<=B/\z.cells=#[z]:=by rcases h with ⟨rfl,rfl,rfl,rfl,rfl,rfl⟩|⟨rfl,rfl,rfl,rfl,rfl,rfl⟩<;>exact⟨zC,zC,rfl⟩
theorem Hr (E:ml F O T L B z) (base y P g n cap:Nat) (x:Zv) (xs:List Zv) (w:Zw) (i:w.ownsRow base T 1 (Zs (Zo ⟨g,0,Zn⟩) n cap) n xs) (N:w.cell? ⟨y,0,Zn⟩=Zo x) (J:x.oneCell'=true) (Z:n<=1000) (f:base<=w.heap.size) :
  Calls prog F #[Zs (Zo ⟨g,0,Zn⟩) n cap,Zi Zk n,Zs (Zo ⟨y,0,Zn⟩) 1 P] w fun e A=>∃d a,e=Zr (Zs (Zo ⟨d,0,Zn⟩) (n+1) a)/\A.ownsRow base T 1 (Zs (Zo ⟨d,0,Zn⟩) (n+1) a) (n+1) (xs++[x])/\Below base w A/\d<A.heap.size/\(∀b,b<w.heap.size->b≠g->A.heap[b]?=w.heap[b]?)/\(d=g∨w.heap.size<=d):=by
 have D:=a7 i;obtain⟨i0,o,r,s,t⟩:=info_parts E.inf;have v:Hid (_/\_/\_/\_):=⟨o,r,s,t⟩;have R:=a7 E.und;have I:Hid (∀j u,[x][j]?=Zo u->w.cell? ((⟨y,0,Zn⟩:Addr).add j)=Zo u):=fun j u h=>by
  cases j with
  | zero=>simp only[List.getElem?_cons_zero,Option.some.injEq]at h;subst h;simpa [Addr.add] using N
  | succ j=>simp at h
 have H:Hid (∀u∈[x],u.oneCell'=true):=fun u M=>by simp only[List.mem_singleton]at M;subst M;exact J
 have K:n<=cap:=by
  obtain⟨-,⟨h,-⟩|⟨d,a,S,h,-,-,Y,-⟩⟩:=i;·cases h
  ·injection h with _ _ X;omega
 clear i o r s t N J;rcases E with ⟨rfl,rfl,rfl,rfl,rfl,rfl⟩|⟨rfl,rfl,rfl,rfl,rfl,rfl⟩;all_goals
  go_in
  go_wp2_with (at_builtin;refine wpList_append_lies _ rfl (.tmp 23) (.tmp 24) _ rfl base _ i0 _ 1 _ R.out v.out.1 v.out.2.1 v.out.2.2.1 v.out.2.2.2 rfl zC (Zs (Zo ⟨g,0,Zn⟩) n cap) n xs rfl D.out ⟨y,0,Zn⟩ 1 P [x] rfl rfl I.out H.out zC (by unfold maxLen;omega) om f w.heap.size rfl ?_;intro U m C k c l p;refine Hid.out ?_)
  all_goals
   refine Lib.hid ?_
   have Q:Hid (∃d a,Ending.returned (Zs (Zo ⟨U,0,Zn⟩) (n+1) m)=Zr (Zs (Zo ⟨d,0,Zn⟩) (n+1) a)/\C.ownsRow base _ 1 (Zs (Zo ⟨d,0,Zn⟩) (n+1) a) (n+1) (xs++[x])/\Below base w C/\d<C.heap.size/\(∀b,b<w.heap.size->b≠g->C.heap[b]?=w.heap[b]?)/\(d=g∨w.heap.size<=d)):=
    ⟨_,_,rfl,k,(Below.refl base w).grown c f (fun q W=>(jD D.out q W).1),p,fun b V G=>c.block b V (fun e=>G (by simpa [Value.ownBlock] using e)),l.elim (fun e=>.inl (by simpa [Value.ownBlock] using e.symm)) (fun e=>.inr (Nat.le_of_eq e.symm))⟩
   clear k c l D I H
   go_wp2
   go_ret
   exact Q.out
theorem FT (r:ml F O T L B z) (base p Q g n cap i:Nat) (x:Zv) (xs:List Zv) (w:Zw) (K:w.ownsRow base T 1 (Zs (Zo ⟨g,0,Zn⟩) n cap) n xs) (P:w.heap[p]?=Zo (Zc #[x] T (0,0))) (M:p≠g) (V:x.oneCell'=true) (ac:∀ v∈xs,v.oneCell'=true) (hi:i<n) (ab:n+1<=cap) :
  Calls prog F #[Zs (Zo ⟨g,0,Zn⟩) n cap,Zi Zk i,Zs (Zo ⟨p,0,Zn⟩) 1 Q] w (xQ base g w (xs.take i++x :: xs.drop i)):=by
 obtain⟨hl,⟨h,-⟩|⟨g',ad,f,h,s,a,am,E,G,A⟩⟩:=K;·cases h
 injection h with h _ h3;injection h with h;injection h with h;subst h h3;simp only[Nat.mul_one]at hl G A;have H:g<w.heap.size:=(ZF.1 a).1;have t:∀j v,xs[j]?=Zo v->w.cell? ⟨g,j,Zn⟩=Zo v:=fun j v d=>by
  have al:=(List.getElem?_eq_some_iff.1 d).1;rw[<- A,List.getElem?_take_of_lt om]at d;have Z:f[j]?=Zo v:=by rw[<- Array.getElem?_toList];exact d
  simp[World.cell?,a,Z]
 have e:∀j,j<n+1->(w.cell? ⟨g,j,Zn⟩).isSome=true:=fun j d=>by have:f[j]?=Zo f[j]:=Array.getElem?_eq_getElem om;simp[World.cell?,a,this]
 have u:∀j,w.frozen? ⟨g,j,Zn⟩=false:=fun j=>by simp[World.frozen?,a]
 have N:w.cell? ⟨p,0,Zn⟩=Zo x:=by simp[World.cell?,P]
 have y:(prog.info? T).map (·.size)=Zo 1:=by obtain⟨i0,Y,h0,V,h2⟩:=info_parts r.inf;rw[Y];simp[V]
 have aa:∀lb U,(callFunc O #[Zs (Zo ⟨p,0,Zn⟩) 1 Q,Zs (Zo ⟨g,i+1,Zn⟩) lb U]).run prog w=.ok (.value (Zb false)) w:=fun lb U=>by rw[r.ov,Lib.run_overlaps_apart w L 4 T r.und 1 r.sz ⟨p,0,Zn⟩ ⟨g,i+1,Zn⟩ 1 Q lb U M T T 1 f.size (by simp[World.shape?,P]) (by simp[World.shape?,a]) om (by simp[World.frozen?,P]) (by simp[World.frozen?,P])];rfl
 have X:(xs.drop i).length=n-i:=by rw[List.length_drop,hl]
 have HC:=Lib.hid (Df (w:=w.drew) (x:=x) (Nat.le_of_lt hi) hl t e);obtain⟨D,c⟩:=ii (w.drew.setCells g (i+1) (xs.drop i));have l:∀C dn S q sc,xs.length-i=Nat.min S dn->(Builtin.copy_ #[L,L] C #[Zs (Zo ⟨g,i+1,Zn⟩) dn q,Zs (Zo ⟨g,i,Zn⟩) S sc]).run prog w.drew=.ok (goInt (xs.drop i).length) D:=fun C dn S q sc hm=>by
  rw[c];exact run_copy_cells w.drew _ _ C T g (i+1) dn q ⟨g,i,Zn⟩ S sc (xs.drop i) r.und y (by rw[List.length_drop];exact hm)
   (fun j v d=>by rw[Addr.add_lit];exact t (i+j) v (by rwa [List.getElem?_drop]at d))
   (fun j d=>e _ om) (fun j d=>u _) (fun v R=>ac v (List.mem_of_mem_drop R))
 have o:∀k,k<n+1->(D.cell? ⟨g,k,Zn⟩).isSome=true:=fun k hk=>by rw[c];exact isSome_setCells g (xs.drop i) (i+1) w.drew (fun j d=>e _ om) _ (e k hk)
 have m:∀C dn q,1<=dn->(Builtin.copy_ #[L,L] C #[Zs (Zo ⟨g,i,Zn⟩) dn q,Zs (Zo ⟨p,0,Zn⟩) 1 Q]).run prog D=.ok (goInt 1) (D.setCells g i [x]):=fun C dn q hd=>
  run_copy_cells D _ _ C T g i dn q ⟨p,0,Zn⟩ 1 Q [x] r.und y (by show 1=min 1 dn;omega)
   (fun j v d=>by
    rw[Addr.add_lit,c,World.cell?_setCells_out g _ _ _ _ (fun h _=>absurd h M)]
    cases j with
    | zero=>simp only[List.getElem?_cons_zero,Option.some.injEq]at d;subst d;exact N
    | succ j=>simp at d)
   (fun j d=>o _ (by simp at d;omega)) (fun j d=>by rw[c,World.frozen?_setCells];exact u _) (fun v R=>by simp only[List.mem_singleton]at R;subst R;exact V)
 have HF:Hid (xQ base g w (xs.take i++x :: xs.drop i) (Zr (Zs (Zo ⟨g,0,Zn⟩) (n+1) cap)) (D.setCells g i [x])):=by refine⟨g,cap,by rw[List.length_append,List.length_take,List.length_cons,X,show min i xs.length+(n-i+1)=n+1 by omega],s,by rw[jP,c,jP];exact H,?_,by rw[c];exact HC.out,fun b hb J=>by rw[c,World.heap_setCells_other _ _ _ _ (by rw[jP];exact hb) J];exact World.heap_setCells_other w.drew _ _ _ hb J,.inl rfl⟩;rw[c];exact kS s _ _ (kS s _ _ (Below.refl _ _).drew)
 have ar:¬((i:Int)=(n:Int)):=om;have af:¬(cap=i+1):=om;have ah:¬(cap=i):=om;have ap:IntKind.i64.wrap ((i:Int)+1)=(i:Int)+1:=by unfold maxLen at E;rw[IntKind.wrap_i64];omega
 have aq:IntKind.i64.wrap ((n:Int)+1)=(n:Int)+1:=by unfold maxLen at E;rw[IntKind.wrap_i64];omega
 have ae:(0:Int)<=(i:Int)+1:=om;have ag:(i:Int)<=(n:Int)+1:=om;have ai:(i:Int)+1<=(n:Int)+1:=om;have ao:((i:Int)+1).toNat=i+1:=om;have an:((n:Int)+1).toNat=n+1:=om;have aj:¬(cap:Int)<(n:Int)+1:=om;have I:xs.length-i=Nat.min (n+1-i) (n-i):=by show _=min _ _;omega
 have mixed:prog.follows .mixedOrders=true:=zK;have W:=l 3 (n-i) (n+1-i) (cap-(i+1)) (cap-i) I;have ak:=m 3 (n+1-i) (cap-i) om;clear l m I c;clear t e u N y G A a P o HC;rcases r with ⟨rfl,rfl,rfl,rfl,rfl,rfl⟩|⟨rfl,rfl,rfl,rfl,rfl,rfl⟩;all_goals
  go_in
  go_wp2_with (simp only[aa])
  go_region_law_o (refine step_copy_runI rfl _ _ _ _ rfl _ _ (by simp[Act.eval,Act.put]) (by simp[Act.eval,Act.put]) W ?_)
  go_wp2
  go_ret
  exact HF.out
theorem FS (y:ml F O T L B z) (base N vc g n cap i:Nat) (x:Zv) (xs:List Zv) (w:Zw) (Z:w.ownsRow base T 1 (Zs (Zo ⟨g,0,Zn⟩) n cap) n xs) (hx:w.heap[N]?=Zo (Zc #[x] T (0,0))) (h1:x.oneCell'=true) (ah:∀ v∈xs,v.oneCell'=true) (hi:i<n) (E:cap<n+1) (hn:n<=1000) (e:base<=w.heap.size) :
  Calls prog F #[Zs (Zo ⟨g,0,Zn⟩) n cap,Zi Zk i,Zs (Zo ⟨N,0,Zn⟩) 1 vc] w (xQ base g w (xs.take i++x :: xs.drop i)):=by
 obtain⟨hl,⟨h,-⟩|⟨g',ai,ad,h,aq,r,az,av,U,I⟩⟩:=Z;·cases h
 injection h with h _ h3;injection h with h;injection h with h;subst h h3;simp only[Nat.mul_one]at hl U I;have W:g<w.heap.size:=(ZF.1 r).1;have aa:N<w.heap.size:=(ZF.1 hx).1;have A:∀j v,xs[j]?=Zo v->w.cell? ⟨g,j,Zn⟩=Zo v:=fun j v a=>by
  have ay:=(List.getElem?_eq_some_iff.1 a).1;rw[<- I,List.getElem?_take_of_lt om]at a;have af:ad[j]?=Zo v:=by rw[<- Array.getElem?_toList];exact a
  simp[World.cell?,r,af]
 have ab:w.cell? ⟨N,0,Zn⟩=Zo x:=by simp[World.cell?,hx]
 obtain⟨i0,C,ac,K,J⟩:=info_parts y.inf;have H:(prog.info? T).map (·.size)=Zo 1:=by rw[C];simp[K]
 have D:i+(n+1-i)=n+1:=om;have X:(n:Int)+1-(i:Int)=((n+1-i:Nat):Int):=om;have t:(Builtin.firstCells i0.size i (Zs (Zo ⟨g,0,Zn⟩) i cap)).run prog w.drew=.ok (xs.take i).toArray w.drew:=by
  rw[K];exact run_firstCells_some w.drew 1 i ⟨g,0,Zn⟩ i cap (xs.take i) (by rw[List.length_take];omega) (fun j v a=>by
   rw[Addr.add_lit,Nat.zero_add]
   rw[List.getElem?_take]at a
   split at a
   ·exact A j v a
   ·cases a)
 obtain⟨G,hG⟩:=ii (grownCap w (n+1) cap T);have p:∀q,q<=1001->q*B<=16016:=fun q h=>Nat.mul_le_mul h y.le.1;have P:=p (n+1-i) om;have Q:=p (n+1) om;obtain⟨f,l⟩:∃f:Array Zv,f=(xs.take i).toArray++Builtin.zeroCells z.cells (n+1-i)++Builtin.zeroCells z.cells (G-(n+1)):=⟨_,rfl⟩;obtain⟨o,c⟩:=ii (w.drew.alloc (Zc f T));have ag:(Builtin.append_ #[L,3] L #[Zs (Zo ⟨g,0,Zn⟩) i cap,Zi Zk ((n:Int)+1-(i:Int))]).run prog w=.ok (Zs (Zo ⟨w.heap.size,0,Zn⟩) (n+1) G) o:=by have h:=Lib.run_append_grow_zeros w L 3 L T i0 _ Zk Zk y.und underlying3 C ac (Zo ⟨g,0,Zn⟩) i cap (xs.take i) t (n+1-i) om om om om (by rw[J];omega) (by rw[J,D];exact growslice_fits E om);rw[D,<- hG,<- l,<- c]at h;rw[X];exact h
 have am:n+1<=G:=by rw[hG];exact grownCap_ge w _ _ _
 have aj:G<=9223372036854775807:=by have:=grownCap_le_maxLen w (n+1) cap T (by unfold maxLen;omega);rw[<- hG]at this;unfold maxLen at this;omega
 have an:n+1<=f.size:=by rw[l,y.le.2.2];simp[Builtin.zeroCells];omega
 have R:∀j,j<n+1->(o.cell? ⟨w.heap.size,j,Zn⟩).isSome=true:=fun j a=>by rw[c,World.cell?_alloc_at (w:=w.drew) f _ w.heap.size j rfl,Array.getElem?_eq_getElem om];rfl
 have u:∀j,o.frozen? ⟨w.heap.size,j,Zn⟩=false:=fun j=>by rw[c];exact World.frozen?_alloc_at (w:=w.drew) f _ w.heap.size j rfl
 have S:∀j v,j<i->xs[j]?=Zo v->o.cell? ⟨w.heap.size,j,Zn⟩=Zo v:=fun j v a M=>by rw[c,World.cell?_alloc_at (w:=w.drew) f _ w.heap.size j rfl,l,Array.append_assoc,Array.getElem?_append_left zE];rw[List.getElem?_toArray,List.getElem?_take_of_lt a];exact M
 have hO:∀b j v,b<w.heap.size->w.cell? ⟨b,j,Zn⟩=Zo v->o.cell? ⟨b,j,Zn⟩=Zo v:=fun b j v hb h=>by rw[c,World.cell?_alloc_past (w:=w.drew) _ b j hb];exact h
 have V:(xs.drop i).length=n-i:=by rw[List.length_drop,hl]
 obtain⟨s,d⟩:=ii (o.setCells w.heap.size i [x]);have aw:(Builtin.copy_ #[L,L] 3 #[Zs (Zo ⟨w.heap.size,i,Zn⟩) (n+1-i) (G-i),Zs (Zo ⟨N,0,Zn⟩) 1 vc]).run prog o=.ok (goInt 1) s:=by
  rw[d];exact run_copy_cells o _ _ _ T w.heap.size i (n+1-i) (G-i) ⟨N,0,Zn⟩ 1 vc [x] y.und H (by show 1=min 1 (n+1-i);omega)
   (fun j v a=>by
    rw[Addr.add_lit]
    cases j with
    | zero=>simp only[List.getElem?_cons_zero,Option.some.injEq]at a;subst a;exact hO _ _ _ aa ab
    | succ j=>simp at a)
   (fun j a=>R _ (by simp at a;omega)) (fun j a=>u _) (fun v M=>by simp only[List.mem_singleton]at M;subst M;exact h1)
 obtain⟨W3,m⟩:=ii (s.drew.setCells w.heap.size (i+1) (xs.drop i));have ae:(Builtin.copy_ #[L,L] 3 #[Zs (Zo ⟨w.heap.size,i+1,Zn⟩) (n-i) (G-(i+1)),Zs (Zo ⟨g,i,Zn⟩) (n-i) (cap-i)]).run prog s.drew=.ok (goInt (xs.drop i).length) W3:=by
  rw[m];exact run_copy_cells s.drew _ _ _ T w.heap.size (i+1) (n-i) (G-(i+1)) ⟨g,i,Zn⟩ (n-i) (cap-i) (xs.drop i) y.und H (by rw[V];show n-i=min (n-i) (n-i);omega)
   (fun j v a=>by
    rw[Addr.add_lit]
    refine ((congrArg (World.cell? · ⟨g,i+j,Zn⟩) d).trans (World.cell?_setCells_out w.heap.size [x] i o ⟨g,i+j,Zn⟩ (fun h _=>absurd h (by show g≠_;omega)))).trans ?_
    exact hO _ _ _ W (A (i+j) v (by rwa [List.getElem?_drop]at a)))
   (fun j a=>by
    show (s.cell? _).isSome=true
    rw[d]
    exact isSome_setCells w.heap.size [x] i o (fun k hk=>R _ (by simp at hk;omega)) _ (R _ om))
   (fun j a=>by show s.frozen? _=false;rw[d,World.frozen?_setCells];exact u _) (fun v M=>ah v (List.mem_of_mem_drop M))
 have HF:Hid (xQ base g w (xs.take i++x :: xs.drop i) (Zr (Zs (Zo ⟨w.heap.size,0,Zn⟩) (n+1) G)) W3):=by
  have hs:W3.heap.size=w.heap.size+1:=by rw[m,jP];show s.heap.size=_;rw[d,jP,c];simp
  refine⟨w.heap.size,G,by rw[List.length_append,List.length_take,List.length_cons,V,show min i xs.length+(n-i+1)=n+1 by omega],e,om,?_,?_,fun b hb _=>?_,.inr (Nat.le_refl _)⟩;·rw[m];refine kS e _ _ (Below.drew ?_);rw[d];refine kS e _ _ ?_;rw[c];exact (Below.refl _ _).drew.alloc e _
  ·rw[m,d];exact AA (Nat.le_of_lt hi) hl S R
  ·have aA:o.heap.size=w.heap.size+1:=by rw[c];simp
   have Y:b≠w.heap.size:=om;rw[m,World.heap_setCells_other _ _ _ _ (by show b<s.heap.size;rw[d,jP];omega) Y];show s.heap[b]?=_;rw[d,World.heap_setCells_other _ _ _ _ om Y,c];exact Below.heap_alloc _ _ _ hb
 have aF:¬((i:Int)=(n:Int)):=om;have ax:i<=n:=om;have al:¬(G=i):=om;have ak:¬(G=i+1):=om;have ar:¬(cap=i):=om;have aC:IntKind.i64.wrap ((i:Int)+1)=(i:Int)+1:=by rw[IntKind.wrap_i64];omega
 have aD:IntKind.i64.wrap ((n:Int)+1)=(n:Int)+1:=by rw[IntKind.wrap_i64];omega
 have aE:IntKind.i64.wrap ((n:Int)+1-(i:Int))=(n:Int)+1-(i:Int):=by rw[IntKind.wrap_i64];omega
 have ao:(0:Int)<=(i:Int)+1:=om;have ap:(i:Int)<=(n:Int)+1:=om;have aB:((i:Int)+1).toNat=i+1:=om;have au:(cap:Int)<(n:Int)+1:=om;have mixed:prog.follows .mixedOrders=true:=zK;clear A ab H U I r hx R u S hO c d m l hG t C ac K J X D p P Q;rcases y with ⟨rfl,rfl,rfl,rfl,rfl,rfl⟩|⟨rfl,rfl,rfl,rfl,rfl,rfl⟩;all_goals
  go_in
  go_wp2_with (at_builtin;refine Lib.wpList_append_run _ rfl _ _ _ _ rfl _ _ rfl rfl _ _ ag ?_)
  go_region_law_o (refine step_copy_runI rfl _ _ _ _ rfl _ _ (by simp[Act.eval,Act.put]) (by simp[Act.eval,Act.put]) ae ?_)
  go_wp2
  go_ret
  exact HF.out
theorem Hq (l:ml F O T L B z) (base d j g n cap i:Nat) (x:Zv) (xs:List Zv) (w:Zw) (a:w.ownsRow base T 1 (Zs (Zo ⟨g,0,Zn⟩) n cap) n xs) (r:w.heap[d]?=Zo (Zc #[x] T (0,0))) (q:d≠g) (k:x.oneCell'=true) (h:∀ v∈xs,v.oneCell'=true) (hi:i<=n) (t:n<=1000) (b:base<=w.heap.size) :
  Calls prog F #[Zs (Zo ⟨g,0,Zn⟩) n cap,Zi Zk i,Zs (Zo ⟨d,0,Zn⟩) 1 j] w (xQ base g w (xs.take i++x :: xs.drop i)):=by
 by_cases o:i=n
 ·subst o;have A:xs.length=i:=by have:=a.1;simpa using this
  refine (Hr l base d j g i cap x xs w a (by simp[World.cell?,r]) k t b).mono ?_;rintro e C ⟨y,s,rfl,c,m,p,f⟩;rw[List.take_of_length_le om,List.drop_eq_nil_of_le om];exact vB c m p f.1 f.2
 ·by_cases u:n+1<=cap;·exact FT l base d j g n cap i x xs w a r q k h om u
  ·exact FS l base d j g n cap i x xs w a r k h om om t b
theorem Hs (s:ml F O T L B z) (base g0 p D:Nat) (x:Zv) (w:Zw) (C:w.cell? ⟨p,0,Zn⟩=Zo x) (y:x.oneCell'=true) (c:base<=w.heap.size) :
  Calls prog F #[Zs Zn 0 0,Zi Zk 0,Zs (Zo ⟨p,0,Zn⟩) 1 D] w (xQ base g0 w [x]):=by
 obtain⟨i0,i,l,m,n⟩:=info_parts s.inf;have o:Hid (_/\_/\_/\_):=⟨i,l,m,n⟩;have G:=a7 s.und;have v:Hid (∀j u,[x][j]?=Zo u->w.cell? ((⟨p,0,Zn⟩:Addr).add j)=Zo u):=fun j u h=>by
  cases j with
  | zero=>simp only[List.getElem?_cons_zero,Option.some.injEq]at h;subst h;simpa [Addr.add] using C
  | succ j=>simp at h
 have t:Hid (∀u∈[x],u.oneCell'=true):=fun u A=>by simp only[List.mem_singleton]at A;subst A;exact y
 have r:Hid (w.ownsRow base T 1 (Zs Zn 0 0) 0 []):=⟨rfl,.inl ⟨rfl,rfl⟩⟩;clear i l m n C y;rcases s with ⟨rfl,rfl,rfl,rfl,rfl,rfl⟩|⟨rfl,rfl,rfl,rfl,rfl,rfl⟩;all_goals
  go_in
  go_wp2_with (at_builtin;refine wpList_append_lies _ rfl (.tmp 23) (.tmp 24) _ rfl base _ i0 _ 1 _ G.out o.out.1 o.out.2.1 o.out.2.2.1 o.out.2.2.2 rfl zC (Zs Zn 0 0) 0 [] rfl r.out ⟨p,0,Zn⟩ 1 D [x] rfl rfl v.out t.out zC (by unfold maxLen;omega) om c w.heap.size rfl ?_;intro H g K d a f k;refine Hid.out ?_)
  all_goals
   refine Lib.hid ?_
   have E:Hid (xQ base g0 w [x] (Zr (Zs (Zo ⟨H,0,Zn⟩) (0+1) g)) K):=vB d ((Below.refl base w).grown a c (fun q J=>(jD r.out q J).1)) k (fun b I _=>a.block b I (fun e=>by simp[Value.ownBlock]at e)) (f.elim (fun e=>by simp[Value.ownBlock]at e) (fun e=>.inr (Nat.le_of_eq e.symm)))
   clear d a f r v t
   go_wp2
   go_ret
   exact E.out
theorem CN (y:Go.Proofs.SlLaysE0.n41 prog ρ) (x:ρ.f 41=F) (A:ρ.t 23=T) (i:ml G O T L B z) (b off n c:Nat) (a:List Zv) (w:Zw) (I:a.length=n) (H:n<=1000) (D:∀ j u,a[j]?=Zo u->w.cell? ⟨b,off+j,Zn⟩=Zo u) (s:∀ u∈a,u.oneCell'=true) :
  Calls prog F #[Zs (Zo ⟨b,off,Zn⟩) n c] w fun e q=>∃g cap,e=Zr (Zs (Zo ⟨g,0,Zn⟩) n cap)/\q.ownsRow w.heap.size T 1 (Zs (Zo ⟨g,0,Zn⟩) n cap) n a/\Bw w q:=by
 subst x A;obtain⟨i0,k,m,p,o⟩:=info_parts i.inf;refine (AnyE.slices_Clone y i0 _ 1 B k m p o (by rw[i.le.2.2];rfl) zC i.sz b off n c a w om (by unfold maxLen;omega) (by have:=Nat.mul_le_mul H i.le.1;omega) D s).mono ?_;rintro e q ⟨v,rfl,d,l,C⟩;obtain⟨E,⟨h,-⟩|⟨g,cap,r,h,rest⟩⟩:=id d;·exact absurd h l
 ·subst h;exact⟨g,cap,rfl,d,C⟩
theorem Ba (b off c:Nat) (a:List ZN) (s:ZN) (w:Zw) (r:a.length<=1000) (n:uv a) (o:∀ j (h:j<a.length),w.cell? ⟨b,off+j,Zn⟩=Zo (Zt a[j])) :
  Calls prog 200 #[Zs (Zo ⟨b,off,Zn⟩) a.length c,Zt s] w fun e g=>∃k q,k<=a.length/\(∀i (h:i<a.length),i<k->kN a[i] s=true)/\(∀(h:k<a.length),¬kN a[k] s=true)/\e=Zr (Zu #[Zi Zk (k:Nat),Zb (decide (a[k]?=Zo s))])/\g=w.drewN q:=by
 obtain⟨k,p,d,l,m⟩:=Fl s a n;refine (Any2.slices_BinarySearch_string Cn b off a.length c (fun t=>a.getD t s) s w om (fun j f=>by rw[o j f];simp[List.getD,f])).mono ?_;rintro e g ⟨rfl,q,rfl⟩;refine⟨k,q,p,l,m,?_,rfl⟩;rw[d];have:decide (k<a.length/\a.getD k s=s)=decide (a[k]?=Zo s):=by
  by_cases h:k<a.length;·simp[List.getD,h]
  ·simp[h]
 rw[this]
def IK(base:Nat)(a:ZO)(w:Zw)(c:List Zv)(e:Ending)(w':Zw):Prop:=
 ∃g cap,e=Zr (Zs (Zo ⟨g,0,Zn⟩) c.length cap)/\base<=g/\g<w'.heap.size/\Below base w w' /\ (∀j v,c[j]?=Zo v->w'.cell? ⟨g,j,Zn⟩=Zo v)/\(∀b,b<w.heap.size->(∀p,a=Zo p->b≠p.block)->w'.heap[b]?=w.heap[b]?)/\((∃p,a=Zo p/\g=p.block)∨w.heap.size<=g)
theorem i7{T:TypeId}(h:w.ownsRow base T 1 (Zs (Zo ⟨g,0,Zn⟩) n cap) n ys):(base<=g/\g<w.heap.size)/\∀j v,ys[j]?=Zo v->w.cell? ⟨g,j,Zn⟩=Zo v/\w.frozen? ⟨g,j,Zn⟩=false:=by
 obtain⟨p,⟨h,-⟩|⟨r,k,c,h,d,a,q,m,e,b⟩⟩:=h;·cases h
 injection h with h _ l;injection h with h;injection h with h;subst h l;simp only[Nat.mul_one]at p e b;refine⟨⟨d,(ZF.1 a).1⟩,fun j v f=>?_⟩;have o:=(List.getElem?_eq_some_iff.1 f).1;rw[<- b,List.getElem?_take_of_lt om]at f;have i:c[j]?=Zo v:=by rw[<- Array.getElem?_toList];exact f
 exact⟨by simp[World.cell?,a,i],by simp[World.frozen?,a]⟩
theorem oh{T:TypeId}(h:w.ownsRow base T 1 (Zs a n cap) n ys)(d:n≠0):∃g,a=Zo ⟨g,0,Zn⟩:=by
 obtain⟨-,⟨-,h⟩|⟨g,b,c,h,-⟩⟩:=h;·exact absurd h d
 ·injection h with h;exact⟨g,h⟩
theorem og{T:TypeId}(h:w.ownsRow base T 1 (Zs a n cap) n ys)(p:Addr)(b:a=Zo p):base<=p.block/\p.block<w.heap.size:=by
 obtain⟨-,⟨h,-⟩|⟨g,c,d,h,e,f,-⟩⟩:=h;·injection h with h;subst h;cases b
 ·injection h with h;subst h;injection b with b;subst b;exact⟨e,(ZF.1 f).1⟩
theorem Bb (a:ZO) (c:Nat) (d:List ZN) (s:ZN) (w:Zw) (o:d.length<=1000) (m:uv d) (n:d.length≠0->∃ b off,a=Zo ⟨b,off,Zn⟩/\∀ j (h:j<d.length),w.cell? ⟨b,off+j,Zn⟩=Zo (Zt d[j])) :
  Calls prog 200 #[Zs a d.length c,Zt s] w fun e l=>∃k q,k<=d.length/\(∀i (h:i<d.length),i<k->kN d[i] s=true)/\(∀(h:k<d.length),¬kN d[k] s=true)/\e=Zr (Zu #[Zi Zk (k:Nat),Zb (decide (d[k]?=Zo s))])/\l=w.drewN q:=by
 by_cases g:d.length=0;·obtain rfl:=List.length_eq_zero_iff.1 g;refine (Any2.slices_BinarySearch_string_empty Cn a c s w).mono ?_;rintro e l ⟨rfl,rfl⟩;exact⟨0,0,Nat.le_refl _,fun i h=>absurd h zS,fun h=>absurd h zS,zS,rfl⟩
 ·obtain⟨b,off,rfl,f⟩:=n g;exact Ba b off c d s w o m f
theorem Ak (v:F=198/\T=9∨F=199/\T=82) (j:ml G O T L B z) (p:Addr) (c:Nat) (w:Zw) :
  Calls prog F #[Zs (Zo p) 0 c] w fun e t=>∃g cap,e=Zr (Zs (Zo ⟨g,0,Zn⟩) 0 cap)/\t.ownsRow w.heap.size T 1 (Zs (Zo ⟨g,0,Zn⟩) 0 cap) 0 []/\Bw w t:=by
 obtain⟨i0,l,m,q,o⟩:=info_parts j.inf;have s:=j.und;have A:∀(w:Zw)(a:ZO)(n c r i:Nat),(binOp .eql L (Zs a n c) (Zs Zn r i)).run prog w=.ok (Zb a.isNone) w:=fun w a n c r i=>Lib.run_eql_slice_nil w _ _ a n c r i s;rcases j with ⟨rfl,rfl,rfl,rfl,rfl,rfl⟩|⟨rfl,rfl,rfl,rfl,rfl,rfl⟩<;>rcases v with ⟨rfl,h⟩|⟨rfl,h⟩<;>cases h
 all_goals
  go_in
  go_wp2_with (at_builtin;refine wpList_append_own _ rfl _ _ _ rfl w.heap.size _ i0 _ 1 _ s l m q o rfl zC _ _ _ rfl (World.ownsRow_made w #[] 0 (Nat.le_refl _) (Nat.zero_le _) zS) p 0 c [] rfl rfl zS zS (by unfold maxLen;omega) om zS ?_)
  intro C w1 b d f
  go_wp2
  go_ret
  obtain⟨y,⟨h,-⟩|⟨g,cap,u,h,rest⟩⟩:=id b
  ·exact absurd h f
  ·subst h
   exact⟨g,cap,rfl,by simpa using b,((Below.refl _ w).alloc (Nat.le_refl _) _).grown d zS (by intro k x;simp[Value.ownBlock]at x;omega)⟩
theorem oM (q:Go.Proofs.SlLaysE0.n41 prog ρ) (o:ρ.f 41=F) (x:ρ.t 23=T) (y:F=198/\T=9∨F=199/\T=82) (r:ml G O T L B z) (a:ZO) (n c:Nat) (d:List Zv) (w:Zw) (s:d.length=n) (C:n<=1000) (A:n≠0->∃ b off,a=Zo ⟨b,off,Zn⟩/\∀ j u,d[j]?=Zo u->w.cell? ⟨b,off+j,Zn⟩=Zo u) (v:∀ u∈d,u.oneCell'=true) :
  Calls prog F #[Zs a n c] w fun e i=>∃l cap,e=Zr (Zs l n cap)/\i.ownsRow w.heap.size T 1 (Zs l n cap) n d/\Bw w i:=by
 by_cases m:n=0
 ·subst m;obtain rfl:=List.length_eq_zero_iff.1 s;cases a with
  | none=>rw[<- o];refine (AnyE.slices_Clone_nil q 0 c w).mono ?_;rintro e i ⟨rfl,rfl⟩;exact⟨Zn,0,rfl,⟨rfl,.inl ⟨rfl,rfl⟩⟩,Below.refl _ _⟩
  | some p=>refine (Ak y r p c w).mono ?_;rintro e i ⟨g,cap,rfl,h⟩;exact⟨_,cap,rfl,h⟩
 ·obtain⟨b,off,rfl,k⟩:=A m;refine (CN q o x r b off n c d w s C k v).mono ?_;rintro e i ⟨g,cap,rfl,h⟩;exact⟨_,cap,rfl,h⟩
theorem B1 (D:ml F O T L B z) (base l u n cap i:Nat) (a:ZO) (x:Zv) (xs:List Zv) (w:Zw) (d:w.ownsRow base T 1 (Zs a n cap) n xs) (E:w.heap[l]?=Zo (Zc #[x] T (0,0))) (s:∀ p,a=Zo p->l≠p.block) (A:x.oneCell'=true) (t:∀ v∈xs,v.oneCell'=true) (hi:i<=n) (I:n<=1000) (c:base<=w.heap.size) :
  Calls prog F #[Zs a n cap,Zi Zk i,Zs (Zo ⟨l,0,Zn⟩) 1 u] w (IK base a w (xs.take i++x :: xs.drop i)):=by
 obtain⟨H,⟨h,-⟩|⟨g,y,G,h,-⟩⟩:=id d
 ·injection h with f k j;subst f k j;obtain rfl:i=0:=by omega
  obtain rfl:=List.length_eq_zero_iff.1 (by simpa using H:xs.length=0);refine (Hs D base w.heap.size l u x w (by simp[World.cell?,E]) A c).mono ?_;rintro e J ⟨g,cap,rfl,k,j,m,o,q,C⟩;exact⟨g,cap,rfl,k,j,m,o,fun b r _=>q b r om,.inr om⟩
 ·injection h with f k j;subst f j;refine (Hq D base l u g n cap i x xs w d E (s _ rfl) A t hi I c).mono ?_;rintro e J ⟨g,cap,rfl,k,j,m,o,q,C⟩;exact⟨g,cap,rfl,k,j,m,o,fun b r h=>q b r (h _ rfl),C.imp (fun e=>⟨_,rfl,e⟩) id⟩
theorem BU (K:Go.Proofs.SlLaysE.n45 prog ρ) (J:ρ.f 45=F) (M:ρ.t 23=T) (N:ml G O T L B z) [Inhabited α] {en:α->Zv} (r:∀ x,(en x).oneCell'=true) {p:α} (P:∀ w,(zeroValue T).run prog w=.ok (en p) w) (base g n cap i:Nat) (xs:List α) (w:Zw) (a:w.ownsRow base T 1 (Zs (Zo ⟨g,0,Zn⟩) n cap) n (xs.map en)) (hi:i<n) :
  Calls prog F #[Zs (Zo ⟨g,0,Zn⟩) n cap,Zi Zk i,Zi Zk ((i:Int)+1)] w fun e m=>e=Zr (Zs (Zo ⟨g,0,Zn⟩) (n-1) cap)/\Below base w m/\(∀j v,((xs.take i++xs.drop (i+1)).map en)[j]?=Zo v->m.cell? ⟨g,j,Zn⟩=Zo v)/\(∀b,b≠g->m.heap[b]?=w.heap[b]?)/\m.heap.size=w.heap.size:=by
 subst J M;obtain⟨i0,s,Y,A,Z⟩:=info_parts N.inf;have S:xs.length=n:=by have:=a.1;simpa using this
 obtain⟨⟨R,U⟩,d⟩:=i7 a;obtain⟨W,V⟩:n<=cap/\cap<=maxLen:=by
  obtain⟨-,⟨h,-⟩|⟨g',C,E,h,-,-,r,H,-⟩⟩:=a;·cases h
  ·injection h with _ _ I;subst I;exact⟨r,H⟩
 have D:Sort.Holds en w g 0 xs.toArray:=fun j o=>by
  have u:j<xs.length:=by simpa using o
  rw[Nat.zero_add];refine d j _ ?_;rw[List.getElem?_map,List.getElem?_eq_getElem u,getElem!_pos _ j o];simp
 subst S;refine (AnyE.slices_Delete K en r p P i0 s A g 0 cap i (i+1) xs.toArray w D (by simpa using W) V om (by rw[List.size_toArray];omega)).mono ?_;rintro e m ⟨rfl,q,rfl⟩;refine⟨zS,⟨rfl,rfl,rfl,by simp[Sort.ahead],fun k hk=>?_⟩,fun j v o=>?_,fun b Q=>?_,by simp[Sort.ahead]⟩
 ·have:g≠k:=by omega
  simp[Sort.putRow,Sort.mapBlock,Sort.ahead,Array.getElem?_modify,this]
 ·obtain⟨y,rfl⟩:=List.getElem?_eq_some_iff.1 o;have c:j<(xs.take i++xs.drop (i+1)).length:=by simpa using y
  have X:(List.take i xs.toArray.toList++List.drop (i+1) xs.toArray.toList++List.replicate (i+1-i) p).toArray.size=xs.toArray.size:=zE;have l:j<(List.take i xs.toArray.toList++List.drop (i+1) xs.toArray.toList++List.replicate (i+1-i) p).toArray.size:=by simp at c ⊢;omega
  have:=(Sort.holds_putRow en (Sort.ahead w q) g 0 xs.toArray _ D X) j l;rw[Nat.zero_add]at this;rw[this.1,getElem!_pos _ j l,List.getElem_map,List.getElem_toArray,List.getElem_append_left c]
 ·have:g≠b:=fun e=>Q e.symm;simp[Sort.putRow,Sort.mapBlock,Sort.ahead,Array.getElem?_modify,this]
theorem Kp(q:Nat)(w:Zw):Bw w (w.drewN q):=by
 have:∀q,Bw w (w.drewN q):=fun q=>by
  induction q with
  | zero=>exact Below.refl _ _
  | succ q a=>exact a.drew
 exact this q
def WF(base:Nat)(w:Zw)(N Q:List Zv)(e:Ending)(w':Zw):Prop:=
 ∃a c1 b c2,e=Zr (Zu #[Zs (Zo ⟨a,0,Zn⟩) N.length c1,Zs (Zo ⟨b,0,Zn⟩) Q.length c2])/\(base<=a/\a<w'.heap.size)/\(base<=b/\b<w'.heap.size)/\Below base w w' /\
  (∀j v,N[j]?=Zo v->w'.cell? ⟨a,j,Zn⟩=Zo v)/\∀j v,Q[j]?=Zo v->w'.cell? ⟨b,j,Zn⟩=Zo v
theorem sT{j:Nat}(h:w'.heap[g]?=w.heap[g]?):w'.cell? ⟨g,j,Zn⟩=w.cell? ⟨g,j,Zn⟩:=by simp[World.cell?,h]
theorem Jw {b1 c1 c2:Nat} {w1 c d s:Zw} {T t:TypeId} {i a2:ZO} {N Q e f:List Zv} {k l:Ending} {x:Obj} (B:base<=b1) (b:Below base w c) (y:w1.ownsRow base T 1 (Zs i n c1) n N) (E:w1.heap.size<=b1)
  (z:c.ownsRow b1 t 1 (Zs a2 n c2) n Q) (A:IK base i c e k d) (hK:IK b1 a2 (d.alloc x) f l s):∃v5 r,k=Zr v5/\l=Zr r/\WF base w e f (Zr (Zu #[v5,r])) s:=by
 obtain⟨g,cap,rfl,o,i2,i3,i4,i5,F⟩:=A;obtain⟨u,a,rfl,I,G,k3,k4,H,J⟩:=hK;refine⟨_,_,rfl,rfl,g,cap,u,a,rfl,⟨o,?_⟩,⟨om,G⟩,(b.trans i3).trans ((((Below.refl base d).alloc ?_ x)).trans (k3.mono B)),fun j v C=>?_,k4⟩;·have:=k3.size;rw[World.size_alloc]at this;omega
 ·exact Nat.le_trans o (Nat.le_of_lt i2)
 ·rw[<- i4 j v C,sT (H g (by rw[World.size_alloc];omega) fun p m=>?_),sT (Below.heap_alloc _ _ _ i2)];have m:=og z p m;rcases F with ⟨q,D,rfl⟩|h;·have:=og y q D;omega
  ·omega
theorem vh (na ka:ZO) (nc kc:Nat) (c:List ZN) (d:List Zv) (s:ZN) (x:ZO) (w:Zw) (hl:d.length=c.length) (hn:c.length<=1000) (ha:uv c) (hc:c.length≠0->∃ b off,na=Zo ⟨b,off,Zn⟩/\∀ j (h:j<c.length),w.cell? ⟨b,off+j,Zn⟩=Zo (Zt c[j])) (hk:c.length≠0->∃ b off,ka=Zo ⟨b,off,Zn⟩/\b<w.heap.size/\∀ j u,d[j]?=Zo u->w.cell? ⟨b,off+j,Zn⟩=Zo u) (h1:∀ u∈d,u.oneCell'=true) :
  Calls prog 165 #[Zs na c.length nc,Zs ka c.length kc,Zt s,Zp x] w (WF w.heap.size w ((ix s (Zp x) c d).1.map Zt) (ix s (Zp x) c d).2):=by
 have X:=Lib.hid (oM BR rfl rfl (.inl ⟨rfl,rfl⟩) tS na c.length nc (c.map Zt) w zS hn (fun P=>by
  obtain⟨b,off,h,hc⟩:=hc P
  refine⟨b,off,h,fun j u z=>?_⟩
  rw[List.getElem?_map]at z
  obtain⟨a,ha,rfl⟩:=Option.map_eq_some_iff.1 z
  obtain⟨h,rfl⟩:=List.getElem?_eq_some_iff.1 ha
  exact hc j h) (fun u hu=>by obtain⟨a,-,rfl⟩:=List.mem_map.1 hu;rfl))
 have Z:=a7 hk;have T:=a7 hl;clear hc hk hl;go_in;go_wp2_with fail;refine X.out.mono ?_;rintro e w1 ⟨a1,cap,rfl,N,B⟩;have M:=a7 N;have ak:=B.size;have W:=Lib.hid (oM BQ rfl rfl (.inr ⟨rfl,rfl⟩) tK ka c.length kc d w1 T.out hn (fun P=>by
  obtain⟨b,off,h,an,hk⟩:=Z.out P
  exact⟨b,off,h,fun j u z=>kC B (hk j u z) an⟩) h1)
 clear N X Z;go_wp2_with fail;refine W.out.mono ?_;rintro e w2 ⟨a2,l,rfl,G,D⟩;have O:=a7 G;have ap:=D.size;have aa:=Lib.hid (Bb a1 cap c s w2 hn ha (fun P=>by
  obtain⟨g,rfl⟩:=oh M.out P
  obtain⟨⟨ae,af⟩,ad⟩:=i7 M.out
  refine⟨g,0,rfl,fun j h=>?_⟩
  rw[Nat.zero_add]
  exact kC D (ad j _ (by rw[List.getElem?_map,List.getElem?_eq_getElem h];rfl)).1 af))
 clear G W;go_wp2_with fail;refine aa.out.mono ?_;rintro e r ⟨k,q,R,K,Q,rfl,al⟩;have J:Bw w2 r:=by rw[al];exact Kp q w2
 have A:Hid (r.ownsRow w1.heap.size 82 1 (Zs a2 c.length l) c.length d):=gh O.out (fun y f=>J.block y (fU O.out y f).2);have E:=D.trans (J.mono D.size);have aq:=J.size;have i:Hid (r.ownsRow w.heap.size 9 1 (Zs a1 c.length cap) c.length (c.map Zt)):=gh M.out (fun y f=>E.block y (fU M.out y f).2);have C:=B.trans (E.mono B.size);clear al O aa;by_cases U:c[k]?=Zo s
 ·obtain⟨S,aj⟩:=List.getElem?_eq_some_iff.1 U;have m:=A5 s (Zp x) c d k T.out.symm S K aj (by rw[tD];simp);obtain⟨g,rfl⟩:=oh i.out om;obtain⟨I,rfl⟩:=oh A.out om;obtain⟨⟨av,aw⟩,o⟩:=i7 A.out;obtain⟨⟨ae,af⟩,-⟩:=i7 M.out;obtain⟨-,F⟩:=i7 i.out;have ai:d[k]?=Zo (d[k]'(by rw[T.out];exact S)):=List.getElem?_eq_getElem _;obtain⟨am,au⟩:=o k _ ai;have ao:g≠I:=om;have HF:Hid (WF w.heap.size w ((ix s (Zp x) c d).1.map Zt) (ix s (Zp x) c d).2 (Zr (Zu #[Zs (Zo ⟨g,0,Zn⟩) c.length cap,Zs (Zo ⟨I,0,Zn⟩) c.length l])) (r.setCell ⟨I,k,Zn⟩ (Zp x))):=by
   show WF _ _ _ _ _ (r.setCells I k [Zp x]);rw[m];refine⟨g,cap,I,l,by rw[List.length_map,List.length_set,T.out],⟨ae,by rw[jP];omega⟩,⟨om,by rw[jP];omega⟩,kS om _ _ C,fun j v z=>?_,fun j v z=>?_⟩;·rw[World.cell?_setCells_out I _ _ _ _ (fun h _=>absurd h ao)];exact (F j v z).1
   ·by_cases ag:j=k
    ·subst ag;rw[List.getElem?_set_self (by rw[T.out];exact S)]at z;injection z with z;subst z;have P:∀t,t<[Value.pointer x].length->(r.cell? ⟨I,j+t,Zn⟩).isSome=true:=fun t ht=>by
      obtain rfl:t=0:=by simpa using ht
      rw[Nat.add_zero,am];rfl
     exact World.cell?_setCells_in I [Zp x] j r P 0 zS
    ·rw[List.getElem?_set_ne (fun h=>ag h.symm)]at z;rw[World.cell?_setCells_out I _ _ _ _ (fun _ _=>by show j<k∨k+1<=j;omega)];exact (o j v z).1
  have ax:(k:Int)<(c.length:Int):=om;rw[decide_eq_true U];clear m F o ai U aj K Q i A M;generalize c.length=L at *;go_wp2_with fail;refine bodyPost_ret (v:=Zu #[Zs (Zo ⟨g,0,Zn⟩) L cap,Zs (Zo ⟨I,0,Zn⟩) L l]) (by simp[results,results165,go_sem]) rfl ?_;exact HF.out
 ·rw[decide_eq_false U];have m:=Gw s (Zp x) c d k T.out.symm R K (fun h=>⟨Q h,fun e=>U (by rw[List.getElem?_eq_getElem h,e])⟩);have ah:∀b,b<r.heap.size->(r.alloc (Zc #[Zt s] 9)).heap[b]?=r.heap[b]?:=fun b hb=>Below.heap_alloc _ _ _ hb;have HI:=Lib.hid (B1 tS w.heap.size r.heap.size 1 c.length cap k a1 (Zt s) (c.map Zt) (r.alloc (Zc #[Zt s] 9)) (gh i.out (fun y f=>ah y (fU i.out y f).2)) (heap_alloc_new _ _) (fun p hp=>by have:=(og i.out p hp).2;omega) rfl (fun v hv=>by obtain⟨a,-,rfl⟩:=List.mem_map.1 hv;rfl) R hn (by rw[World.size_alloc];omega));have HP:=a7 m;have V:=a7 C;have n:=a7 (⟨M.out,i.out,A.out⟩:_/\_/\_);have HR:Hid (w1.heap.size<=r.heap.size):=by show w1.heap.size<=r.heap.size;omega
  have HW:Hid (w.heap.size<=w1.heap.size):=ak;clear m K Q U M i A B D J E C ak ap aq ah ha;have hL:(c.map Value.string).length=c.length:=zS;generalize ar:c.length=L at *;go_wp2_with fail;refine HI.out.mono ?_;intro e w5 hI;obtain⟨g5,ab,rfl,j1,j2,j3,j4,j5,j6⟩:=id hI;generalize (List.take k (List.map Value.string c)++Value.string s :: List.drop k (List.map Value.string c)).length=N5 at hI ⊢;have Y:=a7 hI;have Z:=Lib.hid (B1 tK w1.heap.size w5.heap.size 1 L l k a2 (Zp x) d (w5.alloc (Zc #[Zp x] 82)) (gh n.out.2.2 (fun y f=>by
    have hr:=fU n.out.2.2 y f
    have H:=j3.size
    rw[World.size_alloc]at H
    rw[Below.heap_alloc _ _ _ om,j5 y (by rw[World.size_alloc];omega) (fun p hp=>by have:=(og n.out.1 p hp).2;omega)]
    exact Below.heap_alloc _ _ _ hr.2)) (heap_alloc_new _ _) (fun p hp=>by
    have:=(og n.out.2.2 p hp).2
    have H:=j3.size
    rw[World.size_alloc]at H
    omega) rfl h1 R hn (by have H:=j3.size;rw[World.size_alloc]at H ⊢;have:=HR.out;omega))
  clear hI j1 j2 j3 j4 j5 j6 HI;go_wp2_with fail;refine Z.out.mono ?_;intro e w7 hK;have hF:=Jw (base:=w.heap.size) (w:=w) (b1:=w1.heap.size) HW.out (V.out.alloc (Nat.le_trans HW.out HR.out) _) n.out.1 (Nat.le_refl _) (gh n.out.2.2 (fun y f=>Below.heap_alloc _ _ _ (fU n.out.2.2 y f).2)) Y.out hK;obtain⟨g7,ac,rfl,-⟩:=id hK;obtain⟨v5,v7,e5,e7,hF⟩:=hF;injection e5 with e5;injection e7 with e7;subst e5 e7;have HF:=a7 hF;clear hK Z Y hF hL;generalize (List.take k d++Value.pointer x :: List.drop k d).length=N7 at *;go_wp2_with fail;refine bodyPost_ret (v:=Zu #[Zs (Zo ⟨g5,0,Zn⟩) N5 ab,Zs (Zo ⟨g7,0,Zn⟩) N7 ac]) (by simp[results,results165,go_sem]) rfl ?_;rw[HP.out,List.map_append,List.map_cons,List.map_take,List.map_drop];exact HF.out
theorem q9 (na ka:ZO) (Y kc i:Nat) (c:List ZN) (ps:List (ZO)) (w:Zw) (W:ps.length=c.length) (X:c.length<=1000) (hi:i<c.length) (H:c.length≠0->∃ b off,na=Zo ⟨b,off,Zn⟩/\∀ j (h:j<c.length),w.cell? ⟨b,off+j,Zn⟩=Zo (Zt c[j])) (I:c.length≠0->∃ b off,ka=Zo ⟨b,off,Zn⟩/\b<w.heap.size/\∀ j u,(ps.map Value.pointer)[j]?=Zo u->w.cell? ⟨b,off+j,Zn⟩=Zo u) :
  Calls prog 166 #[Zs na c.length Y,Zs ka c.length kc,Zi Zk i] w (WF w.heap.size w ((c.take i++c.drop (i+1)).map Zt) ((ps.take i++ps.drop (i+1)).map Zp)):=by
 have r:=Lib.hid (oM BR rfl rfl (.inl ⟨rfl,rfl⟩) tS na c.length Y (c.map Zt) w zS X (fun O=>by
  obtain⟨b,off,h,H⟩:=H O
  refine⟨b,off,h,fun j u p=>?_⟩
  rw[List.getElem?_map]at p
  obtain⟨a,ha,rfl⟩:=Option.map_eq_some_iff.1 p
  obtain⟨h,rfl⟩:=List.getElem?_eq_some_iff.1 ha
  exact H j h) (fun u Q=>by obtain⟨a,-,rfl⟩:=List.mem_map.1 Q;rfl))
 have T:=a7 I;have U:=a7 W;clear H I W;go_in;go_wp2_with fail;refine r.out.mono ?_;rintro e w1 ⟨a1,cap,rfl,k,m⟩;obtain⟨g,rfl⟩:=oh k om;have t:=a7 k;have q:=Lib.hid (oM BQ rfl rfl (.inr ⟨rfl,rfl⟩) tK ka c.length kc (ps.map Zp) w1 (by rw[List.length_map];exact U.out) X (fun O=>by
  obtain⟨b,off,h,P,I⟩:=T.out O
  exact⟨b,off,h,fun j u p=>kC m (I j u p) P⟩) (fun u Q=>by obtain⟨a,-,rfl⟩:=List.mem_map.1 Q;rfl))
 clear k r T;go_wp2_with fail;refine q.out.mono ?_;rintro e w2 ⟨a2,f,rfl,d,n⟩;obtain⟨y,rfl⟩:=oh d om;have l:=a7 d;have S:=Lib.hid (BU JF rfl rfl tS (en:=Zt) (fun _=>rfl) zeroValue9 w.heap.size g c.length cap i c w2 (gh t.out (fun x o=>n.block x (fU t.out x o).2)) hi);have ad:IntKind.i64.wrap ((i:Int)+1)=(i:Int)+1:=by rw[IntKind.wrap_i64];omega
 clear d q;generalize z:c.length=L at *;have M:=a7 z;clear z;go_wp2_with fail;refine S.out.mono ?_;rintro e w3 ⟨rfl,A,C,E,G⟩;have ab:g<y:=by have V:=(i7 t.out).1;have h2:=(i7 l.out).1;omega
 have s:=Lib.hid (BU JE rfl rfl tK (en:=Zp) (fun _=>rfl) zeroValue82 w1.heap.size y L f i ps w3 (gh l.out (fun x o=>E x (by have:=(fU l.out x o).1;have:=(i7 t.out).1;omega))) hi);have K:=a7 C;have J:=a7 ((m.trans (n.mono m.size)).trans A);have N:=a7 G;clear S C E G A;go_wp2_with fail;refine s.out.mono ?_;rintro e w4 ⟨rfl,B,D,F,R⟩;have Z:Hid (WF w.heap.size w ((c.take i++c.drop (i+1)).map Zt) ((ps.take i++ps.drop (i+1)).map Zp) (Zr (Zu #[Zs (Zo ⟨g,0,Zn⟩) (L-1) cap,Zs (Zo ⟨y,0,Zn⟩) (L-1) f])) w4):=by
  have V:=(i7 t.out).1;have h2:=(i7 l.out).1;have hz:=N.out;have ac:=n.size;have hL:=U.out;have aa:=M.out;refine⟨g,cap,y,f,?_,⟨V.1,om⟩,⟨om,om⟩,J.out.trans (B.mono m.size),fun j v p=>?_,D⟩;·rw[show ((c.take i++c.drop (i+1)).map Value.string).length=L-1 by simp;omega,show ((ps.take i++ps.drop (i+1)).map Value.pointer).length=L-1 by simp;omega]
  ·rw[sT (F g om)];exact K.out j v p
 clear s D F R B;go_wp2_with fail;refine bodyPost_ret (v:=Zu #[Zs (Zo ⟨g,0,Zn⟩) (L-1) cap,Zs (Zo ⟨y,0,Zn⟩) (L-1) f]) (by simp[results,results166,go_sem]) rfl ?_;exact Z.out
theorem tN(f:α->β)(s:ZN)(x:α):∀(b:List ZN)(a:List α),ix s (f x) b (a.map f)=((ix s x b a).1,(ix s x b a).2.map f)
 | [],_=>by simp[ix]
 | _ :: _,[]=>by simp[ix]
 | n :: b,k :: a=>by
  rw[List.map_cons,ix,ix,tN f s x b a]
  split
  ·rfl
  ·split<;>rfl
theorem zm(s:ZN)(x:α):∀(b:List ZN)(c:List α),(∀z,z∈(ix s x b c).2->z=x∨z∈c)/\(∀z,z∈(ix s x b c).1->z=s∨z∈b)/\(ix s x b c).1.length<=b.length+1/\(ix s x b c).1.length=(ix s x b c).2.length∨b.length≠c.length
 | [],[]=>.inl (by simp[ix])
 | [],_ :: _=>.inr zS
 | _ :: _,[]=>.inr zS
 | n :: b,k :: c=>by
  rcases zm s x b c with ⟨d,e,g,i⟩|h
  ·by_cases f:b.length=c.length
   ·refine .inl ?_
    rw[ix]
    split
    ·refine⟨fun z a=>?_,fun z a=>?_,zE,zE⟩
     ·rcases List.mem_cons.1 a with rfl|a
      ·exact .inr (List.mem_cons_self ..)
      ·exact (d z a).imp id fun h=>ZB _ h
     ·rcases List.mem_cons.1 a with rfl|a
      ·exact .inr (List.mem_cons_self ..)
      ·exact (e z a).imp id fun h=>ZB _ h
    ·split
     ·refine⟨fun z a=>(List.mem_cons.1 a).imp id fun h=>ZB _ h,fun z a=>(List.mem_cons.1 a).imp id fun h=>ZB _ h,zS,zE⟩
     ·exact⟨fun z a=>List.mem_cons.1 a,fun z a=>List.mem_cons.1 a,zS,zE⟩
   ·exact .inr (by simpa using f)
  ·exact .inr (by simpa using h)
theorem yi(f:α->β)(s:ZN):∀(b:List ZN)(a:List α),iK s b (a.map f)=((iK s b a).1,(iK s b a).2.map f)
 | [],_=>by simp[iK]
 | _ :: _,[]=>by simp[iK]
 | n :: b,k :: a=>by
  rw[List.map_cons,iK,iK,yi f s b a]
  split<;>rfl
theorem yy{d:List (K M)}(h:lx S w (b9 S w M) d v):∃(a:ZO)(cap:Nat)(g:List (ZO×K (M+1))),v=Zs a d.length cap/\g.length=d.length/\d.map (fO M M)=g.map (·.2)/\(∀p,p∈g->b9 S w (M+1) p.2 (Zp p.1))/\(d.length≠0->∃b off,a=Zo ⟨b,off,Zn⟩/\S b/\∀j u,(g.map (fun p=>Value.pointer p.1))[j]?=Zo u->w.cell? ⟨b,off+j,Zn⟩=Zo u):=by
 obtain⟨a,cap,rfl,y,t⟩:=h;by_cases o:d=[];·subst o;exact⟨a,cap,[],rfl,rfl,rfl,fun p h=>absurd h zS,fun h=>absurd rfl h⟩
 ·obtain⟨b,off,rfl,s,e⟩:=t o;have m:∀i (h:i<d.length),∃p:ZO,w.cell? ⟨b,off+i,Zn⟩=Zo (Zp p)/\b9 S w (M+1) (fO M M d[i]) (Zp p):=fun i h=>by obtain⟨c,r,k⟩:=e i h;obtain⟨q,rfl,-⟩:=k.ptr;exact⟨_,r,k.up⟩
  refine⟨_,cap,List.ofFn (fun i:Fin d.length=>((m i.1 i.2).choose,fO M M d[i.1])),rfl,zS,?_,fun p n=>?_,fun _=>⟨b,off,rfl,s,fun j u x=>?_⟩⟩
  ·apply List.ext_getElem;·simp
   ·intro i r k;simp
  ·obtain⟨i,rfl⟩:=List.mem_ofFn.1 n;exact (m i.1 i.2).choose_spec.2
  ·obtain⟨l,rfl⟩:=List.getElem?_eq_some_iff.1 x;have f:j<d.length:=by simpa using l
   simp only[List.getElem_map,List.getElem_ofFn];exact (m j f).choose_spec.1
theorem td{c:List ZN}(h:fL S w c v):∃(a:ZO)(cap:Nat),v=Zs a c.length cap/\(c.length≠0->∃b off,a=Zo ⟨b,off,Zn⟩/\∀j (h:j<c.length),w.cell? ⟨b,off+j,Zn⟩=Zo (Zt c[j])):=by obtain⟨a,cap,rfl,-,-,d⟩:=h;refine⟨a,cap,rfl,fun f=>?_⟩;obtain⟨b,off,h,-,d⟩:=d (fun e=>f (by rw[e];rfl));exact⟨b,off,h,d⟩
theorem WF.form {V:Zw} {e:Ending} {N:List ZN} {L:List (ZO × K (M+1))} (f:Bd S w) (t:N.length=L.length) (u:N.length<=1000) (r:∀ s,s∈N->s.size<=maxLen) (o:∀ p,p∈L->b9 S w (M+1) p.2 (Zp p.1)) (h:WF w.heap.size w (N.map Zt) (L.map fun p=>Zp p.1) e V) :
  Bw w V/\∃g c1 j c2 a b,e=Zr (Zu #[Zs (Zo ⟨a,0,Zn⟩) g c1,Zs (Zo ⟨b,0,Zn⟩) j c2])/\Calls prog 164 #[Zs (Zo ⟨a,0,Zn⟩) g c1,Zs (Zo ⟨b,0,Zn⟩) j c2] V (kj (Ov S w.heap.size Zn V) (M+2) (⟨5,N,L.map (·.2)⟩:Kd (K (M+1))) V):=by
 obtain⟨a,c1,b,c2,rfl,⟨k,l⟩,⟨m,n⟩,d,q,hK⟩:=h;refine⟨d,N.length,c1,L.length,c2,a,b,by rw[List.length_map,List.length_map],?_⟩;refine s8 (Ov S w.heap.size Zn V) (M+1) N (L.map (·.2)) _ _ V (Ov.lt f d.size) ⟨_,c1,rfl,by unfold maxLen;omega,r,fun _=>⟨a,0,rfl,.inr ⟨k,l,zS⟩,fun i hi=>?_⟩⟩ ⟨_,c2,by rw[List.length_map],by rw[List.length_map];unfold maxLen;omega,fun _=>⟨b,0,rfl,.inr ⟨m,n,zS⟩,fun i hi=>?_⟩⟩;·rw[Nat.zero_add];exact q i _ (by rw[List.getElem?_map,List.getElem?_eq_getElem hi];rfl)
 ·have c:i<L.length:=by simpa using hi
  refine⟨Zp L[i].1,?_,?_⟩;·rw[Nat.zero_add];exact hK i _ (by rw[List.getElem?_map,List.getElem?_eq_getElem c];rfl)
  ·rw[List.getElem_map];exact rE d f (o _ (List.getElem_mem c))
theorem sU {N:Nat} {a b c d:Zv} {t:TypeId} (h:w.heap[N]?=Zo (Zc #[a,b,c,d] t (0,0))) :
  w.cell? ⟨N,1,Zn⟩=Zo b/\w.cell? ⟨N,2,Zn⟩=Zo c/\w.cell? ⟨N,3,Zn⟩=Zo d:=by refine⟨?_,?_,?_⟩<;>simp[World.cell?,h]
theorem zk (S:ZP) (M:Nat) (k x:K (M+1)) (D g o P cap F f:Nat) (nb no R nc:Nat) (s:ZN) (w:Zw) (W:Bd S w) (e0:w.cell? ⟨D,8,Zn⟩=Zo (Zs (Zo ⟨g,o,Zn⟩) (P+2) cap)) (e1:w.cell? ⟨g,o,Zn⟩=Zo (Zp (Zo ⟨F,0,Zn⟩))) (e2:w.cell? ⟨g,o+1,Zn⟩=Zo (Zp (Zo ⟨f,0,Zn⟩))) (e3:w.cell? ⟨D,3,Zn⟩=Zo (Zs (Zo ⟨nb,no,Zn⟩) (R+1) nc)) (e4:w.cell? ⟨nb,no,Zn⟩=Zo (Zt s)) (hs:s.size<=8) (hk:b9 S w (M+1) k (Zp (Zo ⟨F,0,Zn⟩))) (ok:gF (M+1) k=true) (h5:Kd.sort k=5) (hx:b9 S w (M+1) x (Zp (Zo ⟨f,0,Zn⟩))) :
  Calls prog 125 #[Zp (Zo ⟨D,0,Zn⟩)] w (gV S M (A6 k s x) 0 w):=by
 obtain⟨f1,f2,f3,f4,-⟩:=ms ok h5;obtain⟨b',nv,pv,kv,C,-,l,O,-,L⟩:=id hk;injection C with C;injection C with C;injection C with C;subst C;obtain⟨na,r,rfl,N⟩:=td O;obtain⟨Q,q,m,rfl,Y,t,n,J⟩:=yy L;obtain⟨c1,-,c3⟩:=sU l;have I:Bw w w.drew:=(Below.refl _ _).drew;have HC:Hid (Calls prog 165 #[Zs na (Kd.names k).length r,Zs Q (Kd.kids k).length q,Zt s,Zp (Zo ⟨f,0,Zn⟩)] w.drew (WF w.drew.heap.size w.drew ((ix s (Zp (Zo ⟨f,0,Zn⟩)) (Kd.names k) (m.map fun p=>Value.pointer p.1)).1.map Zt) (ix s (Zp (Zo ⟨f,0,Zn⟩)) (Kd.names k) (m.map fun p=>Value.pointer p.1)).2)):=by
  have:=vh na Q r q (Kd.names k) (m.map fun p=>Zp p.1) s (Zo ⟨f,0,Zn⟩) w.drew (by rw[List.length_map];omega) om f4 N (fun h=>by
   obtain⟨b,off,h1,h2,h3⟩:=J om
   exact⟨b,off,h1,W b h2,h3⟩) (fun u hu=>by obtain⟨a,-,rfl⟩:=List.mem_map.1 hu;rfl)
  rw[show (Kd.kids k).length=(Kd.names k).length from f1.symm];exact this
 have HM:Hid (∀e V,WF w.drew.heap.size w.drew ((ix s (Zp (Zo ⟨f,0,Zn⟩)) (Kd.names k) (m.map fun p=>Value.pointer p.1)).1.map Zt) (ix s (Zp (Zo ⟨f,0,Zn⟩)) (Kd.names k) (m.map fun p=>Value.pointer p.1)).2 e V->Bw w V/\∃n1 c1 n2 c2 T U,e=Zr (Zu #[Zs (Zo ⟨T,0,Zn⟩) n1 c1,Zs (Zo ⟨U,0,Zn⟩) n2 c2])/\Calls prog 164 #[Zs (Zo ⟨T,0,Zn⟩) n1 c1,Zs (Zo ⟨U,0,Zn⟩) n2 c2] V (kj (Ov S w.heap.size Zn V) (M+2) (A6 k s x) V)):=fun e V h=>by
  have hm:=tN (fun p:ZO×K (M+1)=>Value.pointer p.1) s (Zo ⟨f,0,Zn⟩,x) (Kd.names k) m;have Z:=tN (fun p:ZO×K (M+1)=>p.2) s (Zo ⟨f,0,Zn⟩,x) (Kd.names k) m;rcases zm s ((Zo ⟨f,0,Zn⟩:ZO),x) (Kd.names k) m with ⟨p1,p2,p3,p4⟩|h'
  ·rw[hm]at h;have:=WF.form (S:=S) (w:=w.drew) (M:=M) W p4 om (fun z hz=>by unfold maxLen;rcases p2 z hz with rfl|hz<;>first|omega|(have:=f3 z hz;omega)) (fun p hp=>by
    rcases p1 p hp with rfl|hp
    ·exact hx.drew
    ·exact (n p hp).drew) h
   have he:A6 k s x=(⟨5,(ix s ((Zo ⟨f,0,Zn⟩:ZO),x) (Kd.names k) m).1,(ix s ((Zo ⟨f,0,Zn⟩:ZO),x) (Kd.names k) m).2.map (·.2)⟩:Kd (K (M+1))):=by unfold A6;rw[t,Z]
   rw[he];exact⟨I.trans this.1,this.2⟩
  ·exact absurd om h'
 clear hk W N J n t Y O L hx f1 f2 f3 f4 l ok;go_in;have d0:w.drew.cell? ⟨D,8,Zn⟩=Zo (Zs (Zo ⟨g,o,Zn⟩) (P+2) cap):=e0;have d2:w.drew.cell? ⟨g,o+1,Zn⟩=Zo (Zp (Zo ⟨f,0,Zn⟩)):=e2;have d3:w.drew.cell? ⟨D,3,Zn⟩=Zo (Zs (Zo ⟨nb,no,Zn⟩) (R+1) nc):=e3;have d4:w.drew.cell? ⟨nb,no,Zn⟩=Zo (Zt s):=e4;have d5:w.drew.cell? ⟨F,1,Zn⟩=Zo (Zs na (Kd.names k).length r):=c1;have d6:w.drew.cell? ⟨F,3,Zn⟩=Zo (Zs Q (Kd.kids k).length q):=c3;have l0:=d8 e0;have l2:=d8 e2;have l4:=d8 e4;have l5:=d8 c1;have ab:(0:Int)<(P:Int)+2:=om;have ac:(1:Int)<(P:Int)+2:=om;have ad:(0:Int)<(R:Int)+1:=om;generalize (Kd.names k).length=A at *;generalize (Kd.kids k).length=B at *;go_upto_region 2 with fail;refine wp_region_held_drew (S:=fun G=>G.cell? ⟨D,8,Zn⟩=Zo (Zs (Zo ⟨g,o,Zn⟩) (P+2) cap)/\G.cell? ⟨g,o+1,Zn⟩=Zo (Zp (Zo ⟨f,0,Zn⟩))/\G.cell? ⟨D,3,Zn⟩=Zo (Zs (Zo ⟨nb,no,Zn⟩) (R+1) nc)/\G.cell? ⟨nb,no,Zn⟩=Zo (Zt s)/\G.cell? ⟨F,1,Zn⟩=Zo (Zs na A r)/\G.cell? ⟨F,3,Zn⟩=Zo (Zs Q B q)) zK ⟨d0,d2,d3,d4,d5,d6⟩ (fun hHeld=>?_);have ae:w.drew.heap.size=w.heap.size:=rfl;have X:=I;generalize w.drew=V at *;refine tk 0 ?_;refine tk 1 ?_;refine tk 2 ?_;refine tk 3 ?_;refine tk 4 ?_;refine tk 5 ?_;refine tk 6 ?_;refine tk 7 ?_;refine tk 8 ?_;refine tk 9 ?_;refine tk 10 ?_;refine tk 11 ?_;refine tk 12 ?_;refine tk 13 ?_;refine tk 14 ?_;refine tk 15 ?_;refine tk 16 ?_;refine tk 17 ?_;refine tk 18 ?_;refine tk 19 ?_;refine tk 20 ?_;refine i6 21 fun K hK=>?_;go_simp;go_at_call 165;refine HC.out.mono ?_;intro e w1 E;obtain⟨y,n1,q1,n2,q2,T,U,rfl,hF⟩:=HM.out e w1 E;have H:=Lib.hid hF;clear E hF;have aa:_:=hHeld;have d:∀(b i:Nat)(v:Zv),b<w.heap.size->V.cell? ⟨b,i,Zn⟩=Zo v->w1.cell? ⟨b,i,Zn⟩=Zo v:=fun b i v hb h=>by rw[y.cell (p:=⟨b,i,Zn⟩) hb,<- X.cell (p:=⟨b,i,Zn⟩) hb];exact h
 have c:=(⟨d _ _ _ om d0,d _ _ _ om d2,d _ _ _ om d3,d _ _ _ om d4,d _ _ _ om d5,d _ _ _ om d6⟩:_/\_/\_/\_/\_/\_);refine hK.out _ _ c (fun hHeld=>?_);clear hK K HC HM d;refine tk 22 ?_;refine tk 23 ?_;refine i6 24 fun K hK=>?_;go_simp;go_at_call 164;refine H.out.mono ?_;intro e w2 E;obtain⟨j,b,rfl,n⟩:=id E;have HF:=Lib.hid (kj.make (M:=M) (S:=S) (b:=b) y E rfl);clear E n;have af:=y.size;refine hK.out _ _ ⟨kC j c.1 om,kC j c.2.1 om,kC j c.2.2.1 om,kC j c.2.2.2.1 om,kC j c.2.2.2.2.1 om,kC j c.2.2.2.2.2 om⟩ (fun hHeld=>?_);clear hK K H c;refine tk 25 ?_;refine tk 26 ?_;refine wpAnyH_done zK ?_ _;go_simp;go_wp2_with fail;refine bodyPost_ret (by simp[results,results125,go_sem];rfl) rfl ?_;exact HF.out
theorem yh (S:ZP) (M:Nat) (k:K (M+1)) (O g o ln cap q:Nat) (nb no X nc:Nat) (s:ZN) (w:Zw) (Z:Bd S w) (e0:w.cell? ⟨O,8,Zn⟩=Zo (Zs (Zo ⟨g,o,Zn⟩) (ln+1) cap)) (e1:w.cell? ⟨g,o,Zn⟩=Zo (Zp (Zo ⟨q,0,Zn⟩))) (e3:w.cell? ⟨O,3,Zn⟩=Zo (Zs (Zo ⟨nb,no,Zn⟩) (X+1) nc)) (e4:w.cell? ⟨nb,no,Zn⟩=Zo (Zt s)) (hs:s.size<=maxLen) (hk:b9 S w (M+1) k (Zp (Zo ⟨q,0,Zn⟩))) (ok:gF (M+1) k=true) (h5:Kd.sort k=5) (r:K (M+2) × Int) (hr:r=match mP k s with|Zo _=>(yj k s,0)|Zn=>(zU,8)) :
  Calls prog 126 #[Zp (Zo ⟨O,0,Zn⟩)] w (gV S M r.1 r.2 w):=by
 obtain⟨f1,f2,f3,f4,-⟩:=ms ok h5;obtain⟨b',nv,Y,kv,J,-,a,F,G,D⟩:=id hk.drew.drew;injection J with J;injection J with J;injection J with J;subst J;obtain⟨na,t,rfl,E⟩:=td F;obtain⟨ka,n,d,rfl,U,l,f,C⟩:=yy D;obtain⟨c1,c2,c3⟩:=sU a;have N:=(G h5).keep (S':=S) (w':=w.drew) (fun _ _=>rfl) (fun _ h=>h);have aa:(0:Int)<(ln:Int)+1:=om;have ab:(0:Int)<(X:Int)+1:=om;have d3:w.drew.cell? ⟨O,3,Zn⟩=Zo (Zs (Zo ⟨nb,no,Zn⟩) (X+1) nc):=e3;have d4:w.drew.cell? ⟨nb,no,Zn⟩=Zo (Zt s):=e4;have d5:w.drew.cell? ⟨q,2,Zn⟩=Zo Y:=c2;have l5:=d8 c1;by_cases W:s∈Kd.names k
 ·obtain⟨i,hi,rfl⟩:=List.getElem_of_mem W;have T:i<(Kd.kids k).length:=om;have I:=yU N f4 i hi (by unfold maxLen at hs ⊢;omega);have H:r=(yj k (Kd.names k)[i],0):=by rw[hr];unfold mP;rw[mZ _ _ i hi T f4];rfl
  subst H;have HC:Hid (Calls prog 166 #[Zs na (Kd.names k).length t,Zs ka (Kd.kids k).length n,Zi Zk i] w.drew.drew (WF w.drew.drew.heap.size w.drew.drew (((Kd.names k).take i++(Kd.names k).drop (i+1)).map Zt) (((d.map (·.1)).take i++(d.map (·.1)).drop (i+1)).map Zp))):=by
   have:=q9 na ka t n i (Kd.names k) (d.map (·.1)) w.drew.drew (by rw[List.length_map];omega) om hi E (fun h=>by
    obtain⟨b,off,h1,h2,h3⟩:=C om
    exact⟨b,off,h1,Z b h2,fun j u hj=>h3 j u (by rw[List.map_map]at hj;exact hj)⟩)
   rw[show (Kd.kids k).length=(Kd.names k).length from f1.symm];exact this
  have Q:Bw w w.drew.drew:=(Below.refl _ _).drew.drew;have HM:Hid (∀e V,WF w.drew.drew.heap.size w.drew.drew (((Kd.names k).take i++(Kd.names k).drop (i+1)).map Zt) (((d.map (·.1)).take i++(d.map (·.1)).drop (i+1)).map Zp) e V->Bw w V/\∃n1 c1 n2 c2 g1 g2,e=Zr (Zu #[Zs (Zo ⟨g1,0,Zn⟩) n1 c1,Zs (Zo ⟨g2,0,Zn⟩) n2 c2])/\Calls prog 164 #[Zs (Zo ⟨g1,0,Zn⟩) n1 c1,Zs (Zo ⟨g2,0,Zn⟩) n2 c2] V (kj (Ov S w.heap.size Zn V) (M+2) (yj k (Kd.names k)[i]) V)):=fun e V h=>by
   have h':WF w.drew.drew.heap.size w.drew.drew (((Kd.names k).take i++(Kd.names k).drop (i+1)).map Zt) ((d.take i++d.drop (i+1)).map fun p=>Zp p.1) e V:=by rw[show ((d.take i++d.drop (i+1)).map fun p=>Value.pointer p.1)=(((d.map (·.1)).take i++(d.map (·.1)).drop (i+1)).map Zp) by simp[List.map_take,List.map_drop,Function.comp_def]];exact h
   have:=WF.form (S:=S) (w:=w.drew.drew) (M:=M) Z zE zE (fun z hz=>by
    have:=f3 z ((List.mem_append.1 hz).elim List.mem_of_mem_take List.mem_of_mem_drop)
    unfold maxLen;omega) (fun p N=>f p ((List.mem_append.1 N).elim List.mem_of_mem_take List.mem_of_mem_drop)) h'
   have he:yj k (Kd.names k)[i]=(⟨5,(Kd.names k).take i++(Kd.names k).drop (i+1),(d.take i++d.drop (i+1)).map (·.2)⟩:Kd (K (M+1))):=by unfold yj;rw[l,yi,BS _ (Kd.names k) d i om f4 hi rfl]
   rw[he];exact⟨Q.trans this.1,this.2⟩
  clear hk Z E C f l U F D f1 f2 f3 f4 a ok hr G N W T;generalize (Kd.names k)[i]=s at *;generalize (Kd.names k).length=A at *;generalize (Kd.kids k).length=B at *;go_in;go_upto_region 2 with fail;refine wp_region_held_drew (S:=fun c=>c.cell? ⟨O,3,Zn⟩=Zo (Zs (Zo ⟨nb,no,Zn⟩) (X+1) nc)/\c.cell? ⟨nb,no,Zn⟩=Zo (Zt s)/\c.cell? ⟨q,2,Zn⟩=Zo Y/\(Instr.lookup 115 Y (Zt s) true).run prog c=.ok (Zu #[Zi Zk i,Zb true]) c) zK ⟨d3,d4,d5,I⟩ (fun hHeld=>?_);refine tk 0 ?_;refine tk 1 ?_;refine tk 2 ?_;refine tk 3 ?_;refine tk 4 ?_;refine tk 5 ?_;refine tk 6 ?_;refine tk 7 ?_;refine tk 8 ?_;refine tk 9 ?_;refine tk 10 ?_;refine tk 11 ?_;refine tk 12 ?_;refine tk 13 ?_;refine tk 14 ?_;refine tk 15 ?_;refine tk 16 ?_;refine wpAnyH_done zK ?_ _;go_simp;clear hHeld;go_upto_region 5 with fail;have d6:w.drew.drew.cell? ⟨q,1,Zn⟩=Zo (Zs na A t):=c1;have d7:w.drew.drew.cell? ⟨q,3,Zn⟩=Zo (Zs ka B n):=c3;refine wp_region_held_drew (S:=fun c=>c.cell? ⟨q,1,Zn⟩=Zo (Zs na A t)/\c.cell? ⟨q,3,Zn⟩=Zo (Zs ka B n)) zK ⟨d6,d7⟩ (fun hHeld=>?_);have ac:w.drew.drew.heap.size=w.heap.size:=rfl;generalize w.drew.drew=V at *;refine tk 0 ?_;refine tk 1 ?_;refine tk 2 ?_;refine tk 3 ?_;refine tk 4 ?_;refine tk 5 ?_;refine tk 6 ?_;refine tk 7 ?_;refine tk 8 ?_;refine i6 9 fun K hK=>?_;go_simp;go_at_call 166;refine HC.out.mono ?_;intro e w1 L;obtain⟨x,n1,q1,n2,q2,g1,g2,rfl,hF⟩:=HM.out e w1 L;have P:=Lib.hid hF;clear L hF;have y:∀(b i:Nat)(v:Zv),b<w.heap.size->V.cell? ⟨b,i,Zn⟩=Zo v->w1.cell? ⟨b,i,Zn⟩=Zo v:=fun b i v hb h=>by rw[x.cell (p:=⟨b,i,Zn⟩) hb,<- Q.cell (p:=⟨b,i,Zn⟩) hb];exact h
  have m:=(⟨y _ _ _ om d6,y _ _ _ om d7⟩:_/\_);refine hK.out _ _ m (fun hHeld=>?_);clear hK K HC HM y;refine tk 10 ?_;refine tk 11 ?_;refine i6 12 fun K hK=>?_;go_simp;go_at_call 164;refine P.out.mono ?_;intro e w2 L;obtain⟨R,b,rfl,f⟩:=id L;have HF:=Lib.hid (kj.make (M:=M) (S:=S) (b:=b) x L rfl);clear L f;have ad:=x.size;refine hK.out _ _ ⟨kC R m.1 om,kC R m.2 om⟩ (fun hHeld=>?_);clear hK K P m;refine tk 13 ?_;refine tk 14 ?_;refine wpAnyH_done zK ?_ _;go_simp;go_wp2_with fail;refine bodyPost_ret (by simp[results,results126,go_sem];rfl) rfl ?_;exact HF.out
 ·obtain⟨i,I⟩:=B6 N s W hs;have H:r=(zU,8):=by rw[hr];unfold mP;rw[oJ _ _ s W];rfl
  subst H;have HF:Hid (gV S M (zU:K (M+2)) 8 w (Zr (Zu #[Zp Zn,Zi Zk 8])) w.drew):=⟨(Below.refl _ _).drew,.inr ⟨zC,rfl⟩⟩;clear hk Z E C f l U F D f1 f2 f3 f4 a ok hr G N W;go_in;go_upto_region 2 with fail;refine wp_region_held_drew (S:=fun c=>c.cell? ⟨O,3,Zn⟩=Zo (Zs (Zo ⟨nb,no,Zn⟩) (X+1) nc)/\c.cell? ⟨nb,no,Zn⟩=Zo (Zt s)/\c.cell? ⟨q,2,Zn⟩=Zo Y/\(Instr.lookup 115 Y (Zt s) true).run prog c=.ok (Zu #[Zi Zk i,Zb false]) c) zK ⟨d3,d4,d5,I⟩ (fun hHeld=>?_);refine tk 0 ?_;refine tk 1 ?_;refine tk 2 ?_;refine tk 3 ?_;refine tk 4 ?_;refine tk 5 ?_;refine tk 6 ?_;refine tk 7 ?_;refine tk 8 ?_;refine tk 9 ?_;refine tk 10 ?_;refine tk 11 ?_;refine tk 12 ?_;refine tk 13 ?_;refine tk 14 ?_;refine tk 15 ?_;refine tk 16 ?_;refine wpAnyH_done zK ?_ _;go_simp;clear hHeld;go_wp2_with fail;refine bodyPost_ret (v:=Zu #[Zp Zn,Zi Zk 8]) (by simp[results,results126,go_sem]) rfl ?_;exact HF.out
end Go.Proofs.YtcfojmaccikgeaaGreatDoor
