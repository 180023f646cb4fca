import Derived.Test.YtcfojmaccikgeaaGreatDoorB14
import Derived.Test.YtcfojmaccikgeaaGreatDoorB37
import Derived.Shelf.Spec.SlicesInsert
import Derived.Lib.AppendZerosOnto
import Derived.Laws.NewBlocks
import Derived.Deep.Upon
open Go.Value renaming slice→Zs,int→Zi,string→Zt,pointer→Zp,tuple→Zu,bool→Zb
open Go.IntKind renaming i64→Zk
open Go.Ending renaming returned→Zr
open Go.Obj renaming cells→Zc
open Option renaming none→Zn,some→Zo
open Go renaming World→Zw,Value→Zv
open List renaming mem_cons_of_mem→ZB
open Array renaming getElem?_eq_some_iff→ZF
namespace Go.Proofs.YtcfojmaccikgeaaGreatDoor
open Go.RowKit Go.Proofs.Tryz
set_option maxRecDepth 100000
set_option maxHeartbeats 16000000
variable {w w':Zw} {g i n base T cap F O L B G M:Nat} {x z v:Zv} {xs ys:List Zv} {ρ:Go.Shelf.Ren} {a:Option Addr} {α β:Type} {S:Nat->Prop}
theorem kN{k:Nat}{b:Nat}(a:k<=b):∀(c:List Zv)(o:Nat){V:Zw},Below k w V->Below k w (V.setCells b o c)
 | [],_,_,h=>h
 | v :: r,o,V,h=>by rw[World.setCells];exact kN a r (o+1) (h.setCell a _)
theorem jH(b:Nat):∀(a:List Zv)(o:Nat)(w:Zw),(w.setCells b o a).heap.size=w.heap.size
 | [],_,_=>rfl
 | v :: r,o,w=>by rw[World.setCells,jH b r];simp[World.setCell]
theorem C2 (hi:i<=n) (o:xs.length=n) (f:∀ j v,xs[j]?=Zo v->w.cell? ⟨g,j,Zn⟩=Zo v) (c:∀ j,j<n+1->(w.cell? ⟨g,j,Zn⟩).isSome=true) :
  ∀j v,(xs.take i++x :: xs.drop i)[j]?=Zo v->((w.setCells g (i+1) (xs.drop i)).setCells g i [x]).cell? ⟨g,j,Zn⟩=Zo v:=by
 intro j v a;have l:(xs.drop i).length=n-i:=by rw[List.length_drop,o]
 have b:∀j,j<(xs.drop i).length->(w.cell? ⟨g,i+1+j,Zn⟩).isSome=true:=fun j a=>c _ om;rcases Nat.lt_trichotomy j i with h|h|h;·rw[World.cell?_setCells_out g _ _ _ _ (fun _ _=>.inl h),World.cell?_setCells_out g _ _ _ _ (fun _ _=>.inl (by show j<i+1;omega))];rw[List.getElem?_append_left (by rw[List.length_take];omega),List.getElem?_take_of_lt h]at a;exact f j v a
 ·subst h;rw[List.getElem?_append_right (by rw[List.length_take];omega),List.length_take,show j-min j xs.length=0 by omega]at a;simp only[List.getElem?_cons_zero,Option.some.injEq]at a;subst a;exact World.cell?_setCells_in g [x] j _ (fun k m=>by have:k=0:=(by simpa using m);subst this;exact isSome_setCells g _ _ _ b _ (c j om)) 0 zS
 ·rw[World.cell?_setCells_out g _ _ _ _ (fun _ _=>.inr (by show i+1<=j;omega))];rw[List.getElem?_append_right (by rw[List.length_take];omega),List.length_take,show j-min i xs.length=(j-i-1)+1 by omega,List.getElem?_cons_succ]at a;obtain⟨d,e⟩:=List.getElem?_eq_some_iff.1 a;have:=World.cell?_setCells_in g (xs.drop i) (i+1) w b (j-i-1) d;rw[show i+1+(j-i-1)=j by omega,e]at this;exact this
theorem Az (hi:i<=n) (m:xs.length=n) (k:∀ j v,j<i->xs[j]?=Zo v->w.cell? ⟨g,j,Zn⟩=Zo v) (c:∀ j,j<n+1->(w.cell? ⟨g,j,Zn⟩).isSome=true) :
  ∀j v,(xs.take i++x :: xs.drop i)[j]?=Zo v->((w.setCells g i [x]).drew.setCells g (i+1) (xs.drop i)).cell? ⟨g,j,Zn⟩=Zo v:=by
 intro j v a;have l:(xs.drop i).length=n-i:=by rw[List.length_drop,m]
 have b:∀j,j<[x].length->(w.cell? ⟨g,i+j,Zn⟩).isSome=true:=fun j a=>c _ (by simp at a;omega);have e:∀j,j<(xs.drop i).length->((w.setCells g i [x]).drew.cell? ⟨g,i+1+j,Zn⟩).isSome=true:=fun j a=>isSome_setCells g _ _ _ b _ (c _ om);rcases Nat.lt_trichotomy j i with h|h|h;·rw[World.cell?_setCells_out g _ _ _ _ (fun _ _=>.inl (by show j<i+1;omega))];refine (World.cell?_setCells_out g [x] i w ⟨g,j,Zn⟩ (fun _ _=>.inl h)).trans ?_;rw[List.getElem?_append_left (by rw[List.length_take];omega),List.getElem?_take_of_lt h]at a;exact k j v h a
 ·subst h;rw[List.getElem?_append_right (by rw[List.length_take];omega),List.length_take,show j-min j xs.length=0 by omega]at a;simp only[List.getElem?_cons_zero,Option.some.injEq]at a;subst a;rw[World.cell?_setCells_out g _ _ _ _ (fun _ _=>.inl (by show j<j+1;omega))];exact World.cell?_setCells_in g [x] j w b 0 zS
 ·rw[List.getElem?_append_right (by rw[List.length_take];omega),List.length_take,show j-min i xs.length=(j-i-1)+1 by omega,List.getElem?_cons_succ]at a;obtain⟨d,f⟩:=List.getElem?_eq_some_iff.1 a;have:=World.cell?_setCells_in g (xs.drop i) (i+1) (w.setCells g i [x]).drew e (j-i-1) d;rw[show i+1+(j-i-1)=j by omega,f]at this;exact this
def zn(base g0:Nat)(w:Zw)(a:List Zv)(e:Ending)(w':Zw):Prop:=
 ∃g cap,e=Zr (Zs (Zo ⟨g,0,Zn⟩) a.length cap)/\base<=g/\g<w'.heap.size/\Below base w w' /\ (∀j v,a[j]?=Zo v->w'.cell? ⟨g,j,Zn⟩=Zo v)/\(∀b,b<w.heap.size->b≠g0->w'.heap[b]?=w.heap[b]?)/\(g=g0∨w.heap.size<=g)
theorem uY{g0:Nat}{T:TypeId}(h:w'.ownsRow base T 1 (Zs (Zo ⟨g,0,Zn⟩) n cap) n ys)(x:Below base w w')(f:g<w'.heap.size)(q:∀b,b<w.heap.size->b≠g0->w'.heap[b]?=w.heap[b]?)(e:g=g0∨w.heap.size<=g):zn base g0 w ys (Zr (Zs (Zo ⟨g,0,Zn⟩) n cap)) w':=by
 obtain⟨p,⟨h,-⟩|⟨y,o,l,h,m,a,u,r,k,c⟩⟩:=h;·cases h
 injection h with h _ t;injection h with h;injection h with h;subst h t;simp only[Nat.mul_one]at p k c;refine⟨g,cap,by rw[p],m,f,x,fun j v d=>?_,q,e⟩;have s:=(List.getElem?_eq_some_iff.1 d).1;rw[<- c,List.getElem?_take_of_lt om]at d;have i:l[j]?=Zo v:=by rw[<- Array.getElem?_toList];exact d
 simp[World.cell?,a,i]
def mm(F O T L B:Nat)(z:Zv):Prop:=
 (F=201/\O=220/\T=9/\L=23/\B=16/\z=Zt ⟨#[]⟩) ∨
 (F=202/\O=222/\T=82/\L=116/\B=8/\z=Zp Zn)
theorem tS:mm 201 220 9 23 16 (Zt ⟨#[]⟩):=.inl ⟨rfl,rfl,rfl,rfl,rfl,rfl⟩
theorem tK:mm 202 222 82 116 8 (Zp Zn):=.inr ⟨rfl,rfl,rfl,rfl,rfl,rfl⟩
theorem mm.inf(h:mm F O T L B z):(prog.info? T).map (fun i=>(i.zero,i.size,i.bytes))=Zo (Zo z,1,B):=by rcases h with ⟨rfl,rfl,rfl,rfl,rfl,rfl⟩|⟨rfl,rfl,rfl,rfl,rfl,rfl⟩<;>kernel_rfl
theorem mm.und(h:mm F O T L B z):prog.underlying L=Zo (.slice T):=by rcases h with ⟨rfl,rfl,rfl,rfl,rfl,rfl⟩|⟨rfl,rfl,rfl,rfl,rfl,rfl⟩<;>kernel_rfl
theorem mm.sz(h:mm F O T L B z):∀w,Sem.run prog (sizeOf T) w=.ok 1 w:=by
 rcases h with ⟨rfl,rfl,rfl,rfl,rfl,rfl⟩|⟨rfl,rfl,rfl,rfl,rfl,rfl⟩;·exact sizeOf9
 ·exact sizeOf82
theorem mm.ov(h:mm F O T L B z)(args:Array Zv)(w:Zw):(callFunc O args).run prog w=((Extern.SlicesOverlaps.overlaps #[L,L] #[4] args).run prog w).andThen fun v a=>.ok (.value v) a:=by
 rcases h with ⟨rfl,rfl,rfl,rfl,rfl,rfl⟩|⟨rfl,rfl,rfl,rfl,rfl,rfl⟩;·exact run_callFunc_extern func220 zK zK zK zK _ _
 ·exact run_callFunc_extern func222 zK zK zK zK _ _
theorem mm.le(h:mm F O T L B z):B<=16/\1<=B/\z.cells=#[z]:=by rcases h with ⟨rfl,rfl,rfl,rfl,rfl,rfl⟩|⟨rfl,rfl,rfl,rfl,rfl,rfl⟩<;>exact⟨zC,zC,rfl⟩
theorem Gr (D:mm F O T L B z) (base A P g n cap:Nat) (x:Zv) (xs:List Zv) (w:Zw) (f:w.ownsRow base T 1 (Zs (Zo ⟨g,0,Zn⟩) n cap) n xs) (I:w.cell? ⟨A,0,Zn⟩=Zo x) (N:x.oneCell'=true) (Z:n<=1000) (k:base<=w.heap.size) :
  Calls prog F #[Zs (Zo ⟨g,0,Zn⟩) n cap,Zi Zk n,Zs (Zo ⟨A,0,Zn⟩) 1 P] w fun e C=>∃d a,e=Zr (Zs (Zo ⟨d,0,Zn⟩) (n+1) a)/\C.ownsRow base T 1 (Zs (Zo ⟨d,0,Zn⟩) (n+1) a) (n+1) (xs++[x])/\Below base w C/\d<C.heap.size/\(∀b,b<w.heap.size->b≠g->C.heap[b]?=w.heap[b]?)/\(d=g∨w.heap.size<=d):=by
 have G:=a7 f;obtain⟨i0,o,r,t,s⟩:=info_parts D.inf;have v:Hid (_/\_/\_/\_):=⟨o,r,t,s⟩;have Q:=a7 D.und;have K:Hid (∀j u,[x][j]?=Zo u->w.cell? ((⟨A,0,Zn⟩:Addr).add j)=Zo u):=fun j u h=>by
  cases j with
  | zero=>simp only[List.getElem?_cons_zero,Option.some.injEq]at h;subst h;simpa [Addr.add] using I
  | succ j=>simp at h
 have H:Hid (∀u∈[x],u.oneCell'=true):=fun u M=>by simp only[List.mem_singleton]at M;subst M;exact N
 have J:n<=cap:=by
  obtain⟨-,⟨h,-⟩|⟨d,a,V,h,-,-,X,-⟩⟩:=f;·cases h
  ·injection h with _ _ Y;omega
 clear f o r t s I N;rcases D with ⟨rfl,rfl,rfl,rfl,rfl,rfl⟩|⟨rfl,rfl,rfl,rfl,rfl,rfl⟩;all_goals
  go_in
  go_wp2_with (at_builtin;refine wpList_append_lies _ rfl (.tmp 23) (.tmp 24) _ rfl base _ i0 _ 1 _ Q.out v.out.1 v.out.2.1 v.out.2.2.1 v.out.2.2.2 rfl zC (Zs (Zo ⟨g,0,Zn⟩) n cap) n xs rfl G.out ⟨A,0,Zn⟩ 1 P [x] rfl rfl K.out H.out zC (by unfold maxLen;omega) om k w.heap.size rfl ?_;intro U p y i c l m;refine Hid.out ?_)
  all_goals
   refine Lib.hid ?_
   have S:Hid (∃d a,Ending.returned (Zs (Zo ⟨U,0,Zn⟩) (n+1) p)=Zr (Zs (Zo ⟨d,0,Zn⟩) (n+1) a)/\y.ownsRow base _ 1 (Zs (Zo ⟨d,0,Zn⟩) (n+1) a) (n+1) (xs++[x])/\Below base w y/\d<y.heap.size/\(∀b,b<w.heap.size->b≠g->y.heap[b]?=w.heap[b]?)/\(d=g∨w.heap.size<=d)):=
    ⟨_,_,rfl,i,(Below.refl base w).grown c k (fun q R=>(kw G.out q R).1),m,fun b W E=>c.block b W (fun e=>E (by simpa [Value.ownBlock] using e)),l.elim (fun e=>.inl (by simpa [Value.ownBlock] using e.symm)) (fun e=>.inr (Nat.le_of_eq e.symm))⟩
   clear i c l G K H
   go_wp2
   go_ret
   exact S.out
theorem Ez (u:mm F O T L B z) (base p J g n cap i:Nat) (x:Zv) (xs:List Zv) (w:Zw) (N:w.ownsRow base T 1 (Zs (Zo ⟨g,0,Zn⟩) n cap) n xs) (H:w.heap[p]?=Zo (Zc #[x] T (0,0))) (E:p≠g) (h1:x.oneCell'=true) (ab:∀ v∈xs,v.oneCell'=true) (hi:i<n) (X:n+1<=cap) :
  Calls prog F #[Zs (Zo ⟨g,0,Zn⟩) n cap,Zi Zk i,Zs (Zo ⟨p,0,Zn⟩) 1 J] w (zn base g w (xs.take i++x :: xs.drop i)):=by
 obtain⟨hl,⟨h,-⟩|⟨g',ad,f,h,r,a,ar,G,Q,s⟩⟩:=N;·cases h
 injection h with h _ h3;injection h with h;injection h with h;subst h h3;simp only[Nat.mul_one]at hl Q s;have I:g<w.heap.size:=(ZF.1 a).1;have t:∀j v,xs[j]?=Zo v->w.cell? ⟨g,j,Zn⟩=Zo v:=fun j v d=>by
  have ag:=(List.getElem?_eq_some_iff.1 d).1;rw[<- s,List.getElem?_take_of_lt om]at d;have ac:f[j]?=Zo v:=by rw[<- Array.getElem?_toList];exact d
  simp[World.cell?,a,ac]
 have e:∀j,j<n+1->(w.cell? ⟨g,j,Zn⟩).isSome=true:=fun j d=>by have:f[j]?=Zo f[j]:=Array.getElem?_eq_getElem om;simp[World.cell?,a,this]
 have C:∀j,w.frozen? ⟨g,j,Zn⟩=false:=fun j=>by simp[World.frozen?,a]
 have K:w.cell? ⟨p,0,Zn⟩=Zo x:=by simp[World.cell?,H]
 have y:(prog.info? T).map (·.size)=Zo 1:=by obtain⟨i0,U,h0,h1,h2⟩:=info_parts u.inf;rw[U];simp[h1]
 have V:∀Y Z,(callFunc O #[Zs (Zo ⟨p,0,Zn⟩) 1 J,Zs (Zo ⟨g,i+1,Zn⟩) Y Z]).run prog w=.ok (.value (Zb false)) w:=fun Y Z=>by rw[u.ov,Lib.run_overlaps_apart w L 4 T u.und 1 u.sz ⟨p,0,Zn⟩ ⟨g,i+1,Zn⟩ 1 J Y Z E T T 1 f.size (by simp[World.shape?,H]) (by simp[World.shape?,a]) om (by simp[World.frozen?,H]) (by simp[World.frozen?,H])];rfl
 have W:(xs.drop i).length=n-i:=by rw[List.length_drop,hl]
 have HC:=Lib.hid (C2 (w:=w.drew) (x:=x) (Nat.le_of_lt hi) hl t e);obtain⟨D,c⟩:=iw (w.drew.setCells g (i+1) (xs.drop i));have m:∀q dn S A sc,xs.length-i=Nat.min S dn->(Builtin.copy_ #[L,L] q #[Zs (Zo ⟨g,i+1,Zn⟩) dn A,Zs (Zo ⟨g,i,Zn⟩) S sc]).run prog w.drew=.ok (goInt (xs.drop i).length) D:=fun q dn S A sc hm=>by
  rw[c];exact run_copy_cells w.drew _ _ q T g (i+1) dn A ⟨g,i,Zn⟩ S sc (xs.drop i) u.und y (by rw[List.length_drop];exact hm)
   (fun j v d=>by rw[Addr.add_lit];exact t (i+j) v (by rwa [List.getElem?_drop]at d))
   (fun j d=>e _ om) (fun j d=>C _) (fun v R=>ab v (List.mem_of_mem_drop R))
 have l:∀k,k<n+1->(D.cell? ⟨g,k,Zn⟩).isSome=true:=fun k hk=>by rw[c];exact isSome_setCells g (xs.drop i) (i+1) w.drew (fun j d=>e _ om) _ (e k hk)
 have o:∀q dn A,1<=dn->(Builtin.copy_ #[L,L] q #[Zs (Zo ⟨g,i,Zn⟩) dn A,Zs (Zo ⟨p,0,Zn⟩) 1 J]).run prog D=.ok (goInt 1) (D.setCells g i [x]):=fun q dn A hd=>
  run_copy_cells D _ _ q T g i dn A ⟨p,0,Zn⟩ 1 J [x] u.und y (by show 1=min 1 dn;omega)
   (fun j v d=>by
    rw[Addr.add_lit,c,World.cell?_setCells_out g _ _ _ _ (fun h _=>absurd h E)]
    cases j with
    | zero=>simp only[List.getElem?_cons_zero,Option.some.injEq]at d;subst d;exact K
    | succ j=>simp at d)
   (fun j d=>l _ (by simp at d;omega)) (fun j d=>by rw[c,World.frozen?_setCells];exact C _) (fun v R=>by simp only[List.mem_singleton]at R;subst R;exact h1)
 have HF:Hid (zn base g w (xs.take i++x :: xs.drop i) (Zr (Zs (Zo ⟨g,0,Zn⟩) (n+1) cap)) (D.setCells g i [x])):=by refine⟨g,cap,by rw[List.length_append,List.length_take,List.length_cons,W,show min i xs.length+(n-i+1)=n+1 by omega],r,by rw[jH,c,jH];exact I,?_,by rw[c];exact HC.out,fun b hb M=>by rw[c,World.heap_setCells_other _ _ _ _ (by rw[jH];exact hb) M];exact World.heap_setCells_other w.drew _ _ _ hb M,.inl rfl⟩;rw[c];exact kN r _ _ (kN r _ _ (Below.refl _ _).drew)
 have ao:¬((i:Int)=(n:Int)):=om;have an:¬(cap=i+1):=om;have al:¬(cap=i):=om;have ah:IntKind.i64.wrap ((i:Int)+1)=(i:Int)+1:=by unfold maxLen at G;rw[IntKind.wrap_i64];omega
 have ae:IntKind.i64.wrap ((n:Int)+1)=(n:Int)+1:=by unfold maxLen at G;rw[IntKind.wrap_i64];omega
 have aq:(0:Int)<=(i:Int)+1:=om;have ap:(i:Int)<=(n:Int)+1:=om;have am:(i:Int)+1<=(n:Int)+1:=om;have aj:((i:Int)+1).toNat=i+1:=om;have af:((n:Int)+1).toNat=n+1:=om;have ak:¬(cap:Int)<(n:Int)+1:=om;have P:xs.length-i=Nat.min (n+1-i) (n-i):=by show _=min _ _;omega
 have mixed:prog.follows .mixedOrders=true:=zK;have aa:=m 3 (n-i) (n+1-i) (cap-(i+1)) (cap-i) P;have ai:=o 3 (n+1-i) (cap-i) om;clear m o P c;clear t e C K y Q s a H l HC;rcases u with ⟨rfl,rfl,rfl,rfl,rfl,rfl⟩|⟨rfl,rfl,rfl,rfl,rfl,rfl⟩;all_goals
  go_in
  go_wp2_with (simp only[V])
  go_region_law_o (refine step_copy_runI rfl _ _ _ _ rfl _ _ (by simp[Act.eval,Act.put]) (by simp[Act.eval,Act.put]) aa ?_)
  go_wp2
  go_ret
  exact HF.out
theorem Fj (E:mm F O T L B z) (base N vc g n cap i:Nat) (x:Zv) (xs:List Zv) (w:Zw) (Z:w.ownsRow base T 1 (Zs (Zo ⟨g,0,Zn⟩) n cap) n xs) (hx:w.heap[N]?=Zo (Zc #[x] T (0,0))) (h1:x.oneCell'=true) (ae:∀ v∈xs,v.oneCell'=true) (hi:i<n) (D:cap<n+1) (hn:n<=1000) (e:base<=w.heap.size) :
  Calls prog F #[Zs (Zo ⟨g,0,Zn⟩) n cap,Zi Zk i,Zs (Zo ⟨N,0,Zn⟩) 1 vc] w (zn base g w (xs.take i++x :: xs.drop i)):=by
 obtain⟨hl,⟨h,-⟩|⟨g',ah,ag,h,ap,p,aE,al,ab,y⟩⟩:=Z;·cases h
 injection h with h _ h3;injection h with h;injection h with h;subst h h3;simp only[Nat.mul_one]at hl ab y;have U:g<w.heap.size:=(ZF.1 p).1;have V:N<w.heap.size:=(ZF.1 hx).1;have C:∀j v,xs[j]?=Zo v->w.cell? ⟨g,j,Zn⟩=Zo v:=fun j v a=>by
  have am:=(List.getElem?_eq_some_iff.1 a).1;rw[<- y,List.getElem?_take_of_lt om]at a;have af:ag[j]?=Zo v:=by rw[<- Array.getElem?_toList];exact a
  simp[World.cell?,p,af]
 have W:w.cell? ⟨N,0,Zn⟩=Zo x:=by simp[World.cell?,hx]
 obtain⟨i0,u,Q,I,A⟩:=info_parts E.inf;have H:(prog.info? T).map (·.size)=Zo 1:=by rw[u];simp[I]
 have K:i+(n+1-i)=n+1:=om;have P:(n:Int)+1-(i:Int)=((n+1-i:Nat):Int):=om;have t:(Builtin.firstCells i0.size i (Zs (Zo ⟨g,0,Zn⟩) i cap)).run prog w.drew=.ok (xs.take i).toArray w.drew:=by
  rw[I];exact run_firstCells_some w.drew 1 i ⟨g,0,Zn⟩ i cap (xs.take i) (by rw[List.length_take];omega) (fun j v a=>by
   rw[Addr.add_lit,Nat.zero_add]
   rw[List.getElem?_take]at a
   split at a
   ·exact C j v a
   ·cases a)
 obtain⟨G,hG⟩:=iw (grownCap w (n+1) cap T);have o:∀q,q<=1001->q*B<=16016:=fun q h=>Nat.mul_le_mul h E.le.1;have aa:=o (n+1-i) om;have X:=o (n+1) om;obtain⟨f,l⟩:∃f:Array Zv,f=(xs.take i).toArray++Builtin.zeroCells z.cells (n+1-i)++Builtin.zeroCells z.cells (G-(n+1)):=⟨_,rfl⟩;obtain⟨r,d⟩:=iw (w.drew.alloc (Zc f T));have ad:(Builtin.append_ #[L,3] L #[Zs (Zo ⟨g,0,Zn⟩) i cap,Zi Zk ((n:Int)+1-(i:Int))]).run prog w=.ok (Zs (Zo ⟨w.heap.size,0,Zn⟩) (n+1) G) r:=by have h:=Lib.run_append_grow_zeros w L 3 L T i0 _ Zk Zk E.und underlying3 u Q (Zo ⟨g,0,Zn⟩) i cap (xs.take i) t (n+1-i) om om om om (by rw[A];omega) (by rw[A,K];exact growslice_fits D om);rw[K,<- hG,<- l,<- d]at h;rw[P];exact h
 have ar:n+1<=G:=by rw[hG];exact grownCap_ge w _ _ _
 have ai:G<=9223372036854775807:=by have:=grownCap_le_maxLen w (n+1) cap T (by unfold maxLen;omega);rw[<- hG]at this;unfold maxLen at this;omega
 have ax:n+1<=f.size:=by rw[l,E.le.2.2];simp[Builtin.zeroCells];omega
 have hN:∀j,j<n+1->(r.cell? ⟨w.heap.size,j,Zn⟩).isSome=true:=fun j a=>by rw[d,World.cell?_alloc_at (w:=w.drew) f _ w.heap.size j rfl,Array.getElem?_eq_getElem om];rfl
 have J:∀j,r.frozen? ⟨w.heap.size,j,Zn⟩=false:=fun j=>by rw[d];exact World.frozen?_alloc_at (w:=w.drew) f _ w.heap.size j rfl
 have R:∀j v,j<i->xs[j]?=Zo v->r.cell? ⟨w.heap.size,j,Zn⟩=Zo v:=fun j v a M=>by rw[d,World.cell?_alloc_at (w:=w.drew) f _ w.heap.size j rfl,l,Array.append_assoc,Array.getElem?_append_left zE];rw[List.getElem?_toArray,List.getElem?_take_of_lt a];exact M
 have hO:∀b j v,b<w.heap.size->w.cell? ⟨b,j,Zn⟩=Zo v->r.cell? ⟨b,j,Zn⟩=Zo v:=fun b j v hb h=>by rw[d,World.cell?_alloc_past (w:=w.drew) _ b j hb];exact h
 have S:(xs.drop i).length=n-i:=by rw[List.length_drop,hl]
 obtain⟨s,c⟩:=iw (r.setCells w.heap.size i [x]);have ay:(Builtin.copy_ #[L,L] 3 #[Zs (Zo ⟨w.heap.size,i,Zn⟩) (n+1-i) (G-i),Zs (Zo ⟨N,0,Zn⟩) 1 vc]).run prog r=.ok (goInt 1) s:=by
  rw[c];exact run_copy_cells r _ _ _ T w.heap.size i (n+1-i) (G-i) ⟨N,0,Zn⟩ 1 vc [x] E.und H (by show 1=min 1 (n+1-i);omega)
   (fun j v a=>by
    rw[Addr.add_lit]
    cases j with
    | zero=>simp only[List.getElem?_cons_zero,Option.some.injEq]at a;subst a;exact hO _ _ _ V W
    | succ j=>simp at a)
   (fun j a=>hN _ (by simp at a;omega)) (fun j a=>J _) (fun v M=>by simp only[List.mem_singleton]at M;subst M;exact h1)
 obtain⟨W3,m⟩:=iw (s.drew.setCells w.heap.size (i+1) (xs.drop i));have ac:(Builtin.copy_ #[L,L] 3 #[Zs (Zo ⟨w.heap.size,i+1,Zn⟩) (n-i) (G-(i+1)),Zs (Zo ⟨g,i,Zn⟩) (n-i) (cap-i)]).run prog s.drew=.ok (goInt (xs.drop i).length) W3:=by
  rw[m];exact run_copy_cells s.drew _ _ _ T w.heap.size (i+1) (n-i) (G-(i+1)) ⟨g,i,Zn⟩ (n-i) (cap-i) (xs.drop i) E.und H (by rw[S];show n-i=min (n-i) (n-i);omega)
   (fun j v a=>by
    rw[Addr.add_lit]
    refine ((congrArg (World.cell? · ⟨g,i+j,Zn⟩) c).trans (World.cell?_setCells_out w.heap.size [x] i r ⟨g,i+j,Zn⟩ (fun h _=>absurd h (by show g≠_;omega)))).trans ?_
    exact hO _ _ _ U (C (i+j) v (by rwa [List.getElem?_drop]at a)))
   (fun j a=>by
    show (s.cell? _).isSome=true
    rw[c]
    exact isSome_setCells w.heap.size [x] i r (fun k hk=>hN _ (by simp at hk;omega)) _ (hN _ om))
   (fun j a=>by show s.frozen? _=false;rw[c,World.frozen?_setCells];exact J _) (fun v M=>ae v (List.mem_of_mem_drop M))
 have HF:Hid (zn base g w (xs.take i++x :: xs.drop i) (Zr (Zs (Zo ⟨w.heap.size,0,Zn⟩) (n+1) G)) W3):=by
  have hs:W3.heap.size=w.heap.size+1:=by rw[m,jH];show s.heap.size=_;rw[c,jH,d];simp
  refine⟨w.heap.size,G,by rw[List.length_append,List.length_take,List.length_cons,S,show min i xs.length+(n-i+1)=n+1 by omega],e,om,?_,?_,fun b hb _=>?_,.inr (Nat.le_refl _)⟩;·rw[m];refine kN e _ _ (Below.drew ?_);rw[c];refine kN e _ _ ?_;rw[d];exact (Below.refl _ _).drew.alloc e _
  ·rw[m,c];exact Az (Nat.le_of_lt hi) hl R hN
  ·have av:r.heap.size=w.heap.size+1:=by rw[d];simp
   have Y:b≠w.heap.size:=om;rw[m,World.heap_setCells_other _ _ _ _ (by show b<s.heap.size;rw[c,jH];omega) Y];show s.heap[b]?=_;rw[c,World.heap_setCells_other _ _ _ _ om Y,d];exact Below.heap_alloc _ _ _ hb
 have aw:¬((i:Int)=(n:Int)):=om;have aB:i<=n:=om;have au:¬(G=i):=om;have aj:¬(G=i+1):=om;have az:¬(cap=i):=om;have an:IntKind.i64.wrap ((i:Int)+1)=(i:Int)+1:=by rw[IntKind.wrap_i64];omega
 have ak:IntKind.i64.wrap ((n:Int)+1)=(n:Int)+1:=by rw[IntKind.wrap_i64];omega
 have aA:IntKind.i64.wrap ((n:Int)+1-(i:Int))=(n:Int)+1-(i:Int):=by rw[IntKind.wrap_i64];omega
 have aD:(0:Int)<=(i:Int)+1:=om;have aC:(i:Int)<=(n:Int)+1:=om;have ao:((i:Int)+1).toNat=i+1:=om;have aq:(cap:Int)<(n:Int)+1:=om;have mixed:prog.follows .mixedOrders=true:=zK;clear C W H ab y p hx hN J R hO d c m l hG t u Q I A P K o aa X;rcases E with ⟨rfl,rfl,rfl,rfl,rfl,rfl⟩|⟨rfl,rfl,rfl,rfl,rfl,rfl⟩;all_goals
  go_in
  go_wp2_with (at_builtin;refine Lib.wpList_append_run _ rfl _ _ _ _ rfl _ _ rfl rfl _ _ ad ?_)
  go_region_law_o (refine step_copy_runI rfl _ _ _ _ rfl _ _ (by simp[Act.eval,Act.put]) (by simp[Act.eval,Act.put]) ac ?_)
  go_wp2
  go_ret
  exact HF.out
theorem Hn (o:mm F O T L B z) (base d j g n cap i:Nat) (x:Zv) (xs:List Zv) (w:Zw) (a:w.ownsRow base T 1 (Zs (Zo ⟨g,0,Zn⟩) n cap) n xs) (q:w.heap[d]?=Zo (Zc #[x] T (0,0))) (p:d≠g) (k:x.oneCell'=true) (h:∀ v∈xs,v.oneCell'=true) (hi:i<=n) (t:n<=1000) (b:base<=w.heap.size) :
  Calls prog F #[Zs (Zo ⟨g,0,Zn⟩) n cap,Zi Zk i,Zs (Zo ⟨d,0,Zn⟩) 1 j] w (zn base g w (xs.take i++x :: xs.drop i)):=by
 by_cases l:i=n
 ·subst l;have A:xs.length=i:=by have:=a.1;simpa using this
  refine (Gr o base d j g i cap x xs w a (by simp[World.cell?,q]) k t b).mono ?_;rintro e C ⟨y,s,rfl,c,r,m,f⟩;rw[List.take_of_length_le om,List.drop_eq_nil_of_le om];exact uY c r m f.1 f.2
 ·by_cases u:n+1<=cap;·exact Ez o base d j g n cap i x xs w a q p k h om u
  ·exact Fj o base d j g n cap i x xs w a q k h om om t b
theorem H7 (r:mm F O T L B z) (base g0 p D:Nat) (x:Zv) (w:Zw) (v:w.cell? ⟨p,0,Zn⟩=Zo x) (C:x.oneCell'=true) (d:base<=w.heap.size) :
  Calls prog F #[Zs Zn 0 0,Zi Zk 0,Zs (Zo ⟨p,0,Zn⟩) 1 D] w (zn base g0 w [x]):=by
 obtain⟨i0,i,l,n,m⟩:=info_parts r.inf;have o:Hid (_/\_/\_/\_):=⟨i,l,n,m⟩;have G:=a7 r.und;have y:Hid (∀j u,[x][j]?=Zo u->w.cell? ((⟨p,0,Zn⟩:Addr).add j)=Zo u):=fun j u h=>by
  cases j with
  | zero=>simp only[List.getElem?_cons_zero,Option.some.injEq]at h;subst h;simpa [Addr.add] using v
  | succ j=>simp at h
 have t:Hid (∀u∈[x],u.oneCell'=true):=fun u A=>by simp only[List.mem_singleton]at A;subst A;exact C
 have s:Hid (w.ownsRow base T 1 (Zs Zn 0 0) 0 []):=⟨rfl,.inl ⟨rfl,rfl⟩⟩;clear i l n m v C;rcases r with ⟨rfl,rfl,rfl,rfl,rfl,rfl⟩|⟨rfl,rfl,rfl,rfl,rfl,rfl⟩;all_goals
  go_in
  go_wp2_with (at_builtin;refine wpList_append_lies _ rfl (.tmp 23) (.tmp 24) _ rfl base _ i0 _ 1 _ G.out o.out.1 o.out.2.1 o.out.2.2.1 o.out.2.2.2 rfl zC (Zs Zn 0 0) 0 [] rfl s.out ⟨p,0,Zn⟩ 1 D [x] rfl rfl y.out t.out zC (by unfold maxLen;omega) om d w.heap.size rfl ?_;intro J k E c a f g;refine Hid.out ?_)
  all_goals
   refine Lib.hid ?_
   have I:Hid (zn base g0 w [x] (Zr (Zs (Zo ⟨J,0,Zn⟩) (0+1) k)) E):=uY c ((Below.refl base w).grown a d (fun q H=>(kw s.out q H).1)) g (fun b K _=>a.block b K (fun e=>by simp[Value.ownBlock]at e)) (f.elim (fun e=>by simp[Value.ownBlock]at e) (fun e=>.inr (Nat.le_of_eq e.symm)))
   clear c a f s y t
   go_wp2
   go_ret
   exact I.out
theorem Cl (y:Go.Proofs.SlLaysE0.n41 prog ρ) (s:ρ.f 41=F) (H:ρ.t 23=T) (i:mm G O T L B z) (b off n c:Nat) (a:List Zv) (w:Zw) (I:a.length=n) (D:n<=1000) (x:∀ j u,a[j]?=Zo u->w.cell? ⟨b,off+j,Zn⟩=Zo u) (r:∀ u∈a,u.oneCell'=true) :
  Calls prog F #[Zs (Zo ⟨b,off,Zn⟩) n c] w fun e o=>∃g cap,e=Zr (Zs (Zo ⟨g,0,Zn⟩) n cap)/\o.ownsRow w.heap.size T 1 (Zs (Zo ⟨g,0,Zn⟩) n cap) n a/\Bw w o:=by
 subst s H;obtain⟨i0,m,l,p,q⟩:=info_parts i.inf;refine (AnyE.slices_Clone y i0 _ 1 B m l p q (by rw[i.le.2.2];rfl) zC i.sz b off n c a w om (by unfold maxLen;omega) (by have:=Nat.mul_le_mul D i.le.1;omega) x r).mono ?_;rintro e o ⟨v,rfl,d,k,E⟩;obtain⟨A,⟨h,-⟩|⟨g,cap,C,h,rest⟩⟩:=id d;·exact absurd h k
 ·subst h;exact⟨g,cap,rfl,d,E⟩
theorem zV (b off c:Nat) (a:List ByteArray) (s:ByteArray) (w:Zw) (r:a.length<=1000) (p:uk a) (n:∀ j (h:j<a.length),w.cell? ⟨b,off+j,Zn⟩=Zo (Zt a[j])) :
  Calls prog 200 #[Zs (Zo ⟨b,off,Zn⟩) a.length c,Zt s] w fun e f=>∃k q,k<=a.length/\(∀i (h:i<a.length),i<k->kJ a[i] s=true)/\(∀(h:k<a.length),¬kJ a[k] s=true)/\e=Zr (Zu #[Zi Zk (k:Nat),Zb (decide (a[k]?=Zo s))])/\f=w.drewN q:=by
 obtain⟨k,o,d,m,l⟩:=FH s a p;refine (Any2.slices_BinarySearch_string BL b off a.length c (fun t=>a.getD t s) s w om (fun j g=>by rw[n j g];simp[List.getD,g])).mono ?_;rintro e f ⟨rfl,q,rfl⟩;refine⟨k,q,o,m,l,?_,rfl⟩;rw[d];have:decide (k<a.length/\a.getD k s=s)=decide (a[k]?=Zo s):=by
  by_cases h:k<a.length;·simp[List.getD,h]
  ·simp[h]
 rw[this]
def IU(base:Nat)(a:Option Addr)(w:Zw)(c:List Zv)(e:Ending)(w':Zw):Prop:=
 ∃g cap,e=Zr (Zs (Zo ⟨g,0,Zn⟩) c.length cap)/\base<=g/\g<w'.heap.size/\Below base w w' /\ (∀j v,c[j]?=Zo v->w'.cell? ⟨g,j,Zn⟩=Zo v)/\(∀b,b<w.heap.size->(∀p,a=Zo p->b≠p.block)->w'.heap[b]?=w.heap[b]?)/\((∃p,a=Zo p/\g=p.block)∨w.heap.size<=g)
theorem i7{T:TypeId}(h:w.ownsRow base T 1 (Zs (Zo ⟨g,0,Zn⟩) n cap) n ys):(base<=g/\g<w.heap.size)/\∀j v,ys[j]?=Zo v->w.cell? ⟨g,j,Zn⟩=Zo v/\w.frozen? ⟨g,j,Zn⟩=false:=by
 obtain⟨o,⟨h,-⟩|⟨r,k,f,h,i,a,q,l,e,b⟩⟩:=h;·cases h
 injection h with h _ p;injection h with h;injection h with h;subst h p;simp only[Nat.mul_one]at o e b;refine⟨⟨i,(ZF.1 a).1⟩,fun j v c=>?_⟩;have m:=(List.getElem?_eq_some_iff.1 c).1;rw[<- b,List.getElem?_take_of_lt om]at c;have d:f[j]?=Zo v:=by rw[<- Array.getElem?_toList];exact c
 exact⟨by simp[World.cell?,a,d],by simp[World.frozen?,a]⟩
theorem oe{T:TypeId}(h:w.ownsRow base T 1 (Zs a n cap) n ys)(d:n≠0):∃g,a=Zo ⟨g,0,Zn⟩:=by
 obtain⟨-,⟨-,h⟩|⟨g,b,c,h,-⟩⟩:=h;·exact absurd h d
 ·injection h with h;exact⟨g,h⟩
theorem nO{T:TypeId}(h:w.ownsRow base T 1 (Zs a n cap) n ys)(p:Addr)(b:a=Zo p):base<=p.block/\p.block<w.heap.size:=by
 obtain⟨-,⟨h,-⟩|⟨g,c,f,h,e,d,-⟩⟩:=h;·injection h with h;subst h;cases b
 ·injection h with h;subst h;injection b with b;subst b;exact⟨e,(ZF.1 d).1⟩
theorem AX (a:Option Addr) (c:Nat) (d:List ByteArray) (s:ByteArray) (w:Zw) (n:d.length<=1000) (o:uk d) (m:d.length≠0->∃ b off,a=Zo ⟨b,off,Zn⟩/\∀ j (h:j<d.length),w.cell? ⟨b,off+j,Zn⟩=Zo (Zt d[j])) :
  Calls prog 200 #[Zs a d.length c,Zt s] w fun e g=>∃k q,k<=d.length/\(∀i (h:i<d.length),i<k->kJ d[i] s=true)/\(∀(h:k<d.length),¬kJ d[k] s=true)/\e=Zr (Zu #[Zi Zk (k:Nat),Zb (decide (d[k]?=Zo s))])/\g=w.drewN q:=by
 by_cases l:d.length=0;·obtain rfl:=List.length_eq_zero_iff.1 l;refine (Any2.slices_BinarySearch_string_empty BL a c s w).mono ?_;rintro e g ⟨rfl,rfl⟩;exact⟨0,0,Nat.le_refl _,fun i h=>absurd h zS,fun h=>absurd h zS,zS,rfl⟩
 ·obtain⟨b,off,rfl,f⟩:=m l;exact zV b off c d s w n o f
theorem AN (v:F=198/\T=9∨F=199/\T=82) (i:mm G O T L B z) (p:Addr) (c:Nat) (w:Zw) :
  Calls prog F #[Zs (Zo p) 0 c] w fun e t=>∃g cap,e=Zr (Zs (Zo ⟨g,0,Zn⟩) 0 cap)/\t.ownsRow w.heap.size T 1 (Zs (Zo ⟨g,0,Zn⟩) 0 cap) 0 []/\Bw w t:=by
 obtain⟨i0,m,l,q,r⟩:=info_parts i.inf;have s:=i.und;have u:∀(w:Zw)(a:Option Addr)(n c o j:Nat),(binOp .eql L (Zs a n c) (Zs Zn o j)).run prog w=.ok (Zb a.isNone) w:=fun w a n c o j=>Lib.run_eql_slice_nil w _ _ a n c o j s;rcases i with ⟨rfl,rfl,rfl,rfl,rfl,rfl⟩|⟨rfl,rfl,rfl,rfl,rfl,rfl⟩<;>rcases v with ⟨rfl,h⟩|⟨rfl,h⟩<;>cases h
 all_goals
  go_in
  go_wp2_with (at_builtin;refine wpList_append_own _ rfl _ _ _ rfl w.heap.size _ i0 _ 1 _ s m l q r rfl zC _ _ _ rfl (World.ownsRow_made w #[] 0 (Nat.le_refl _) (Nat.zero_le _) zS) p 0 c [] rfl rfl zS zS (by unfold maxLen;omega) om zS ?_)
  intro C w1 b d f
  go_wp2
  go_ret
  obtain⟨y,⟨h,-⟩|⟨g,cap,A,h,rest⟩⟩:=id b
  ·exact absurd h f
  ·subst h
   exact⟨g,cap,rfl,by simpa using b,((Below.refl _ w).alloc (Nat.le_refl _) _).grown d zS (by intro k x;simp[Value.ownBlock]at x;omega)⟩
theorem oI (o:Go.Proofs.SlLaysE0.n41 prog ρ) (l:ρ.f 41=F) (C:ρ.t 23=T) (A:F=198/\T=9∨F=199/\T=82) (m:mm G O T L B z) (a:Option Addr) (n c:Nat) (d:List Zv) (w:Zw) (q:d.length=n) (y:n<=1000) (x:n≠0->∃ b off,a=Zo ⟨b,off,Zn⟩/\∀ j u,d[j]?=Zo u->w.cell? ⟨b,off+j,Zn⟩=Zo u) (v:∀ u∈d,u.oneCell'=true) :
  Calls prog F #[Zs a n c] w fun e i=>∃s cap,e=Zr (Zs s n cap)/\i.ownsRow w.heap.size T 1 (Zs s n cap) n d/\Bw w i:=by
 by_cases r:n=0
 ·subst r;obtain rfl:=List.length_eq_zero_iff.1 q;cases a with
  | none=>rw[<- l];refine (AnyE.slices_Clone_nil o 0 c w).mono ?_;rintro e i ⟨rfl,rfl⟩;exact⟨Zn,0,rfl,⟨rfl,.inl ⟨rfl,rfl⟩⟩,Below.refl _ _⟩
  | some p=>refine (AN A m p c w).mono ?_;rintro e i ⟨g,cap,rfl,h⟩;exact⟨_,cap,rfl,h⟩
 ·obtain⟨b,off,rfl,k⟩:=x r;refine (Cl o l C m b off n c d w q y k v).mono ?_;rintro e i ⟨g,cap,rfl,h⟩;exact⟨_,cap,rfl,h⟩
theorem B6 (C:mm F O T L B z) (base l q n cap i:Nat) (a:Option Addr) (x:Zv) (xs:List Zv) (w:Zw) (d:w.ownsRow base T 1 (Zs a n cap) n xs) (E:w.heap[l]?=Zo (Zc #[x] T (0,0))) (o:∀ p,a=Zo p->l≠p.block) (y:x.oneCell'=true) (m:∀ v∈xs,v.oneCell'=true) (hi:i<=n) (J:n<=1000) (c:base<=w.heap.size) :
  Calls prog F #[Zs a n cap,Zi Zk i,Zs (Zo ⟨l,0,Zn⟩) 1 q] w (IU base a w (xs.take i++x :: xs.drop i)):=by
 obtain⟨G,⟨h,-⟩|⟨g,D,I,h,-⟩⟩:=id d
 ·injection h with j k f;subst j k f;obtain rfl:i=0:=by omega
  obtain rfl:=List.length_eq_zero_iff.1 (by simpa using G:xs.length=0);refine (H7 C base w.heap.size l q x w (by simp[World.cell?,E]) y c).mono ?_;rintro e H ⟨g,cap,rfl,k,f,s,r,t,A⟩;exact⟨g,cap,rfl,k,f,s,r,fun b u _=>t b u om,.inr om⟩
 ·injection h with j k f;subst j f;refine (Hn C base l q g n cap i x xs w d E (o _ rfl) y m hi J c).mono ?_;rintro e H ⟨g,cap,rfl,k,f,s,r,t,A⟩;exact⟨g,cap,rfl,k,f,s,r,fun b u h=>t b u (h _ rfl),A.imp (fun e=>⟨_,rfl,e⟩) id⟩
theorem Cc (Q:Go.Proofs.SlLaysE.n45 prog ρ) (N:ρ.f 45=F) (I:ρ.t 23=T) (E:mm G O T L B z) [Inhabited α] {en:α->Zv} (y:∀ x,(en x).oneCell'=true) {o:α} (M:∀ w,(zeroValue T).run prog w=.ok (en o) w) (base g n cap i:Nat) (xs:List α) (w:Zw) (a:w.ownsRow base T 1 (Zs (Zo ⟨g,0,Zn⟩) n cap) n (xs.map en)) (hi:i<n) :
  Calls prog F #[Zs (Zo ⟨g,0,Zn⟩) n cap,Zi Zk i,Zi Zk ((i:Int)+1)] w fun e m=>e=Zr (Zs (Zo ⟨g,0,Zn⟩) (n-1) cap)/\Below base w m/\(∀j v,((xs.take i++xs.drop (i+1)).map en)[j]?=Zo v->m.cell? ⟨g,j,Zn⟩=Zo v)/\(∀b,b≠g->m.heap[b]?=w.heap[b]?)/\m.heap.size=w.heap.size:=by
 subst N I;obtain⟨i0,u,J,s,V⟩:=info_parts E.inf;have R:xs.length=n:=by have:=a.1;simpa using this
 obtain⟨⟨H,P⟩,l⟩:=i7 a;obtain⟨Y,S⟩:n<=cap/\cap<=maxLen:=by
  obtain⟨-,⟨h,-⟩|⟨g',C,X,h,-,-,y,K,-⟩⟩:=a;·cases h
  ·injection h with _ _ U;subst U;exact⟨y,K⟩
 have D:Sort.Holds en w g 0 xs.toArray:=fun j p=>by
  have A:j<xs.length:=by simpa using p
  rw[Nat.zero_add];refine l j _ ?_;rw[List.getElem?_map,List.getElem?_eq_getElem A,getElem!_pos _ j p];simp
 subst R;refine (AnyE.slices_Delete Q en y o M i0 u s g 0 cap i (i+1) xs.toArray w D (by simpa using Y) S om (by rw[List.size_toArray];omega)).mono ?_;rintro e m ⟨rfl,q,rfl⟩;refine⟨zS,⟨rfl,rfl,rfl,by simp[Sort.ahead],fun k hk=>?_⟩,fun j v p=>?_,fun b Z=>?_,by simp[Sort.ahead]⟩
 ·have:g≠k:=by omega
  simp[Sort.putRow,Sort.mapBlock,Sort.ahead,Array.getElem?_modify,this]
 ·obtain⟨r,rfl⟩:=List.getElem?_eq_some_iff.1 p;have c:j<(xs.take i++xs.drop (i+1)).length:=by simpa using r
  have W:(List.take i xs.toArray.toList++List.drop (i+1) xs.toArray.toList++List.replicate (i+1-i) o).toArray.size=xs.toArray.size:=zE;have d:j<(List.take i xs.toArray.toList++List.drop (i+1) xs.toArray.toList++List.replicate (i+1-i) o).toArray.size:=by simp at c ⊢;omega
  have:=(Sort.holds_putRow en (Sort.ahead w q) g 0 xs.toArray _ D W) j d;rw[Nat.zero_add]at this;rw[this.1,getElem!_pos _ j d,List.getElem_map,List.getElem_toArray,List.getElem_append_left c]
 ·have:g≠b:=fun e=>Z e.symm;simp[Sort.putRow,Sort.mapBlock,Sort.ahead,Array.getElem?_modify,this]
theorem below_drewN(q:Nat)(w:Zw):Bw w (w.drewN q):=by
 have:∀q,Bw w (w.drewN q):=fun q=>by
  induction q with
  | zero=>exact Below.refl _ _
  | succ q a=>exact a.drew
 exact this q
def WF(base:Nat)(w:Zw)(N Q:List Zv)(e:Ending)(w':Zw):Prop:=
 ∃a c1 b c2,e=Zr (Zu #[Zs (Zo ⟨a,0,Zn⟩) N.length c1,Zs (Zo ⟨b,0,Zn⟩) Q.length c2])/\(base<=a/\a<w'.heap.size)/\(base<=b/\b<w'.heap.size)/\Below base w w' /\
  (∀j v,N[j]?=Zo v->w'.cell? ⟨a,j,Zn⟩=Zo v)/\∀j v,Q[j]?=Zo v->w'.cell? ⟨b,j,Zn⟩=Zo v
theorem sx{j:Nat}(h:w'.heap[g]?=w.heap[g]?):w'.cell? ⟨g,j,Zn⟩=w.cell? ⟨g,j,Zn⟩:=by simp[World.cell?,h]
theorem IJ {b1 c1 c2:Nat} {w1 b d l:Zw} {T u:TypeId} {f a2:Option Addr} {N Q s i:List Zv} {k o:Ending} {x:Obj} (G:base<=b1) (c:Below base w b) (D:w1.ownsRow base T 1 (Zs f n c1) n N) (z:w1.heap.size<=b1)
  (C:b.ownsRow b1 u 1 (Zs a2 n c2) n Q) (y:IU base f b s k d) (hK:IU b1 a2 (d.alloc x) i o l):∃v5 m,k=Zr v5/\o=Zr m/\WF base w s i (Zr (Zu #[v5,m])) l:=by
 obtain⟨g,cap,rfl,e,i2,i3,i4,i5,E⟩:=y;obtain⟨t,a,rfl,J,A,k3,k4,F,I⟩:=hK;refine⟨_,_,rfl,rfl,g,cap,t,a,rfl,⟨e,?_⟩,⟨om,A⟩,(c.trans i3).trans ((((Below.refl base d).alloc ?_ x)).trans (k3.mono G)),fun j v B=>?_,k4⟩;·have:=k3.size;rw[World.size_alloc]at this;omega
 ·exact Nat.le_trans e (Nat.le_of_lt i2)
 ·rw[<- i4 j v B,sx (F g (by rw[World.size_alloc];omega) fun p r=>?_),sx (Below.heap_alloc _ _ _ i2)];have r:=nO C p r;rcases E with ⟨q,H,rfl⟩|h;·have:=nO D q H;omega
  ·omega
theorem uy (na ka:Option Addr) (nc kc:Nat) (c:List ByteArray) (d:List Zv) (s:ByteArray) (x:Option Addr) (w:Zw) (hl:d.length=c.length) (hn:c.length<=1000) (ha:uk c) (hc:c.length≠0->∃ b off,na=Zo ⟨b,off,Zn⟩/\∀ j (h:j<c.length),w.cell? ⟨b,off+j,Zn⟩=Zo (Zt c[j])) (hk:c.length≠0->∃ b off,ka=Zo ⟨b,off,Zn⟩/\b<w.heap.size/\∀ j u,d[j]?=Zo u->w.cell? ⟨b,off+j,Zn⟩=Zo u) (h1:∀ u∈d,u.oneCell'=true) :
  Calls prog 165 #[Zs na c.length nc,Zs ka c.length kc,Zt s,Zp x] w (WF w.heap.size w ((iy s (Zp x) c d).1.map Zt) (iy s (Zp x) c d).2):=by
 have ab:=Lib.hid (oI BM rfl rfl (.inl ⟨rfl,rfl⟩) tS na c.length nc (c.map Zt) w zS hn (fun R=>by
  obtain⟨b,off,h,hc⟩:=hc R
  refine⟨b,off,h,fun j u z=>?_⟩
  rw[List.getElem?_map]at z
  obtain⟨a,ha,rfl⟩:=Option.map_eq_some_iff.1 z
  obtain⟨h,rfl⟩:=List.getElem?_eq_some_iff.1 ha
  exact hc j h) (fun u hu=>by obtain⟨a,-,rfl⟩:=List.mem_map.1 hu;rfl))
 have V:=a7 hk;have U:=a7 hl;clear hc hk hl;go_in;go_wp2_with fail;refine ab.out.mono ?_;rintro e w1 ⟨a1,cap,rfl,M,H⟩;have N:=a7 M;have ad:=H.size;have ae:=Lib.hid (oI BW rfl rfl (.inr ⟨rfl,rfl⟩) tK ka c.length kc d w1 U.out hn (fun R=>by
  obtain⟨b,off,h,aq,hk⟩:=V.out R
  exact⟨b,off,h,fun j u z=>kC H (hk j u z) aq⟩) h1)
 clear M ab V;go_wp2_with fail;refine ae.out.mono ?_;rintro e w2 ⟨a2,m,rfl,C,E⟩;have S:=a7 C;have am:=E.size;have ak:=Lib.hid (AX a1 cap c s w2 hn ha (fun R=>by
  obtain⟨g,rfl⟩:=oe N.out R
  obtain⟨⟨ag,aa⟩,ac⟩:=i7 N.out
  refine⟨g,0,rfl,fun j h=>?_⟩
  rw[Nat.zero_add]
  exact kC E (ac j _ (by rw[List.getElem?_map,List.getElem?_eq_getElem h];rfl)).1 aa))
 clear C ae;go_wp2_with fail;refine ak.out.mono ?_;rintro e r ⟨k,q,Q,J,O,rfl,ah⟩;have K:Bw w2 r:=by rw[ah];exact below_drewN q w2
 have B:Hid (r.ownsRow w1.heap.size 82 1 (Zs a2 c.length m) c.length d):=gg S.out (fun y f=>K.block y (fR S.out y f).2);have F:=E.trans (K.mono E.size);have ap:=K.size;have i:Hid (r.ownsRow w.heap.size 9 1 (Zs a1 c.length cap) c.length (c.map Zt)):=gg N.out (fun y f=>F.block y (fR N.out y f).2);have A:=H.trans (F.mono H.size);clear ah S ak;by_cases T:c[k]?=Zo s
 ·obtain⟨P,al⟩:=List.getElem?_eq_some_iff.1 T;have l:=Au s (Zp x) c d k U.out.symm P J al (by rw[tB];simp);obtain⟨g,rfl⟩:=oe i.out om;obtain⟨I,rfl⟩:=oe B.out om;obtain⟨⟨aw,au⟩,n⟩:=i7 B.out;obtain⟨⟨ag,aa⟩,-⟩:=i7 N.out;obtain⟨-,G⟩:=i7 i.out;have W:d[k]?=Zo (d[k]'(by rw[U.out];exact P)):=List.getElem?_eq_getElem _;obtain⟨an,av⟩:=n k _ W;have ao:g≠I:=om;have HF:Hid (WF w.heap.size w ((iy s (Zp x) c d).1.map Zt) (iy s (Zp x) c d).2 (Zr (Zu #[Zs (Zo ⟨g,0,Zn⟩) c.length cap,Zs (Zo ⟨I,0,Zn⟩) c.length m])) (r.setCell ⟨I,k,Zn⟩ (Zp x))):=by
   show WF _ _ _ _ _ (r.setCells I k [Zp x]);rw[l];refine⟨g,cap,I,m,by rw[List.length_map,List.length_set,U.out],⟨ag,by rw[jH];omega⟩,⟨om,by rw[jH];omega⟩,kN om _ _ A,fun j v z=>?_,fun j v z=>?_⟩;·rw[World.cell?_setCells_out I _ _ _ _ (fun h _=>absurd h ao)];exact (G j v z).1
   ·by_cases aj:j=k
    ·subst aj;rw[List.getElem?_set_self (by rw[U.out];exact P)]at z;injection z with z;subst z;have R:∀t,t<[Value.pointer x].length->(r.cell? ⟨I,j+t,Zn⟩).isSome=true:=fun t ht=>by
      obtain rfl:t=0:=by simpa using ht
      rw[Nat.add_zero,an];rfl
     exact World.cell?_setCells_in I [Zp x] j r R 0 zS
    ·rw[List.getElem?_set_ne (fun h=>aj h.symm)]at z;rw[World.cell?_setCells_out I _ _ _ _ (fun _ _=>by show j<k∨k+1<=j;omega)];exact (n j v z).1
  have ax:(k:Int)<(c.length:Int):=om;rw[decide_eq_true T];clear l G n W T al J O i B N;generalize c.length=L at *;go_wp2_with fail;refine bodyPost_ret (v:=Zu #[Zs (Zo ⟨g,0,Zn⟩) L cap,Zs (Zo ⟨I,0,Zn⟩) L m]) (by simp[results,results165,go_sem]) rfl ?_;exact HF.out
 ·rw[decide_eq_false T];have l:=FN s (Zp x) c d k U.out.symm Q J (fun h=>⟨O h,fun e=>T (by rw[List.getElem?_eq_getElem h,e])⟩);have af:∀b,b<r.heap.size->(r.alloc (Zc #[Zt s] 9)).heap[b]?=r.heap[b]?:=fun b hb=>Below.heap_alloc _ _ _ hb;have HI:=Lib.hid (B6 tS w.heap.size r.heap.size 1 c.length cap k a1 (Zt s) (c.map Zt) (r.alloc (Zc #[Zt s] 9)) (gg i.out (fun y f=>af y (fR i.out y f).2)) (heap_alloc_new _ _) (fun p hp=>by have:=(nO i.out p hp).2;omega) rfl (fun v hv=>by obtain⟨a,-,rfl⟩:=List.mem_map.1 hv;rfl) Q hn (by rw[World.size_alloc];omega));have HP:=a7 l;have X:=a7 A;have o:=a7 (⟨N.out,i.out,B.out⟩:_/\_/\_);have HR:Hid (w1.heap.size<=r.heap.size):=by show w1.heap.size<=r.heap.size;omega
  have HW:Hid (w.heap.size<=w1.heap.size):=ad;clear l J O T N i B H E K F A ad am ap af ha;have hL:(c.map Value.string).length=c.length:=zS;generalize ar:c.length=L at *;go_wp2_with fail;refine HI.out.mono ?_;intro e w5 hI;obtain⟨g5,Y,rfl,j1,j2,j3,j4,j5,j6⟩:=id hI;generalize (List.take k (List.map Value.string c)++Value.string s :: List.drop k (List.map Value.string c)).length=N5 at hI ⊢;have Z:=a7 hI;have V:=Lib.hid (B6 tK w1.heap.size w5.heap.size 1 L m k a2 (Zp x) d (w5.alloc (Zc #[Zp x] 82)) (gg o.out.2.2 (fun y f=>by
    have hr:=fR o.out.2.2 y f
    have D:=j3.size
    rw[World.size_alloc]at D
    rw[Below.heap_alloc _ _ _ om,j5 y (by rw[World.size_alloc];omega) (fun p hp=>by have:=(nO o.out.1 p hp).2;omega)]
    exact Below.heap_alloc _ _ _ hr.2)) (heap_alloc_new _ _) (fun p hp=>by
    have:=(nO o.out.2.2 p hp).2
    have D:=j3.size
    rw[World.size_alloc]at D
    omega) rfl h1 Q hn (by have D:=j3.size;rw[World.size_alloc]at D ⊢;have:=HR.out;omega))
  clear hI j1 j2 j3 j4 j5 j6 HI;go_wp2_with fail;refine V.out.mono ?_;intro e w7 hK;have hF:=IJ (base:=w.heap.size) (w:=w) (b1:=w1.heap.size) HW.out (X.out.alloc (Nat.le_trans HW.out HR.out) _) o.out.1 (Nat.le_refl _) (gg o.out.2.2 (fun y f=>Below.heap_alloc _ _ _ (fR o.out.2.2 y f).2)) Z.out hK;obtain⟨g7,ai,rfl,-⟩:=id hK;obtain⟨v5,v7,e5,e7,hF⟩:=hF;injection e5 with e5;injection e7 with e7;subst e5 e7;have HF:=a7 hF;clear hK V Z hF hL;generalize (List.take k d++Value.pointer x :: List.drop k d).length=N7 at *;go_wp2_with fail;refine bodyPost_ret (v:=Zu #[Zs (Zo ⟨g5,0,Zn⟩) N5 Y,Zs (Zo ⟨g7,0,Zn⟩) N7 ai]) (by simp[results,results165,go_sem]) rfl ?_;rw[HP.out,List.map_append,List.map_cons,List.map_take,List.map_drop];exact HF.out
theorem qQ (na K:Option Addr) (V X i:Nat) (c:List ByteArray) (ps:List (Option Addr)) (w:Zw) (hl:ps.length=c.length) (W:c.length<=1000) (hi:i<c.length) (H:c.length≠0->∃ b off,na=Zo ⟨b,off,Zn⟩/\∀ j (h:j<c.length),w.cell? ⟨b,off+j,Zn⟩=Zo (Zt c[j])) (I:c.length≠0->∃ b off,K=Zo ⟨b,off,Zn⟩/\b<w.heap.size/\∀ j u,(ps.map Value.pointer)[j]?=Zo u->w.cell? ⟨b,off+j,Zn⟩=Zo u) :
  Calls prog 166 #[Zs na c.length V,Zs K c.length X,Zi Zk i] w (WF w.heap.size w ((c.take i++c.drop (i+1)).map Zt) ((ps.take i++ps.drop (i+1)).map Zp)):=by
 have t:=Lib.hid (oI BM rfl rfl (.inl ⟨rfl,rfl⟩) tS na c.length V (c.map Zt) w zS W (fun O=>by
  obtain⟨b,off,h,H⟩:=H O
  refine⟨b,off,h,fun j u p=>?_⟩
  rw[List.getElem?_map]at p
  obtain⟨a,ha,rfl⟩:=Option.map_eq_some_iff.1 p
  obtain⟨h,rfl⟩:=List.getElem?_eq_some_iff.1 ha
  exact H j h) (fun u P=>by obtain⟨a,-,rfl⟩:=List.mem_map.1 P;rfl))
 have T:=a7 I;have Z:=a7 hl;clear H I hl;go_in;go_wp2_with fail;refine t.out.mono ?_;rintro e w1 ⟨a1,cap,rfl,k,l⟩;obtain⟨g,rfl⟩:=oe k om;have D:=a7 k;have A:=Lib.hid (oI BW rfl rfl (.inr ⟨rfl,rfl⟩) tK K c.length X (ps.map Zp) w1 (by rw[List.length_map];exact Z.out) W (fun O=>by
  obtain⟨b,off,h,Q,I⟩:=T.out O
  exact⟨b,off,h,fun j u p=>kC l (I j u p) Q⟩) (fun u P=>by obtain⟨a,-,rfl⟩:=List.mem_map.1 P;rfl))
 clear k t T;go_wp2_with fail;refine A.out.mono ?_;rintro e w2 ⟨a2,f,rfl,d,o⟩;obtain⟨E,rfl⟩:=oe d om;have m:=a7 d;have U:=Lib.hid (Cc Jg rfl rfl tS (en:=Zt) (fun _=>rfl) zeroValue9 w.heap.size g c.length cap i c w2 (gg D.out (fun q n=>o.block q (fR D.out q n).2)) hi);have ad:IntKind.i64.wrap ((i:Int)+1)=(i:Int)+1:=by rw[IntKind.wrap_i64];omega
 clear d A;generalize s:c.length=L at *;have R:=a7 s;clear s;go_wp2_with fail;refine U.out.mono ?_;rintro e w3 ⟨rfl,F,r,G,x⟩;have ab:g<E:=by have Y:=(i7 D.out).1;have h2:=(i7 m.out).1;omega
 have B:=Lib.hid (Cc Ja rfl rfl tK (en:=Zp) (fun _=>rfl) zeroValue82 w1.heap.size E L f i ps w3 (gg m.out (fun q n=>G q (by have:=(fR m.out q n).1;have:=(i7 D.out).1;omega))) hi);have N:=a7 r;have M:=a7 ((l.trans (o.mono l.size)).trans F);have S:=a7 x;clear U r G x F;go_wp2_with fail;refine B.out.mono ?_;rintro e w4 ⟨rfl,z,y,C,J⟩;have HF:Hid (WF w.heap.size w ((c.take i++c.drop (i+1)).map Zt) ((ps.take i++ps.drop (i+1)).map Zp) (Zr (Zu #[Zs (Zo ⟨g,0,Zn⟩) (L-1) cap,Zs (Zo ⟨E,0,Zn⟩) (L-1) f])) w4):=by
  have Y:=(i7 D.out).1;have h2:=(i7 m.out).1;have hz:=S.out;have aa:=o.size;have hL:=Z.out;have ac:=R.out;refine⟨g,cap,E,f,?_,⟨Y.1,om⟩,⟨om,om⟩,M.out.trans (z.mono l.size),fun j v p=>?_,y⟩;·rw[show ((c.take i++c.drop (i+1)).map Value.string).length=L-1 by simp;omega,show ((ps.take i++ps.drop (i+1)).map Value.pointer).length=L-1 by simp;omega]
  ·rw[sx (C g om)];exact N.out j v p
 clear B y C J z;go_wp2_with fail;refine bodyPost_ret (v:=Zu #[Zs (Zo ⟨g,0,Zn⟩) (L-1) cap,Zs (Zo ⟨E,0,Zn⟩) (L-1) f]) (by simp[results,results166,go_sem]) rfl ?_;exact HF.out
theorem sK(f:α->β)(s:ByteArray)(x:α):∀(a:List ByteArray)(b:List α),iy s (f x) a (b.map f)=((iy s x a b).1,(iy s x a b).2.map f)
 | [],_=>by simp[iy]
 | _ :: _,[]=>by simp[iy]
 | n :: a,k :: b=>by
  rw[List.map_cons,iy,iy,sK f s x a b]
  split
  ·rfl
  ·split<;>rfl
theorem yp(s:ByteArray)(x:α):∀(b:List ByteArray)(c:List α),(∀z,z∈(iy s x b c).2->z=x∨z∈c)/\(∀z,z∈(iy s x b c).1->z=s∨z∈b)/\(iy s x b c).1.length<=b.length+1/\(iy s x b c).1.length=(iy s x b c).2.length∨b.length≠c.length
 | [],[]=>.inl (by simp[iy])
 | [],_ :: _=>.inr zS
 | _ :: _,[]=>.inr zS
 | n :: b,k :: c=>by
  rcases yp s x b c with ⟨e,d,g,i⟩|h
  ·by_cases f:b.length=c.length
   ·refine .inl ?_
    rw[iy]
    split
    ·refine⟨fun z a=>?_,fun z a=>?_,zE,zE⟩
     ·rcases List.mem_cons.1 a with rfl|a
      ·exact .inr (List.mem_cons_self ..)
      ·exact (e z a).imp id fun h=>ZB _ h
     ·rcases List.mem_cons.1 a with rfl|a
      ·exact .inr (List.mem_cons_self ..)
      ·exact (d z a).imp id fun h=>ZB _ h
    ·split
     ·refine⟨fun z a=>(List.mem_cons.1 a).imp id fun h=>ZB _ h,fun z a=>(List.mem_cons.1 a).imp id fun h=>ZB _ h,zS,zE⟩
     ·exact⟨fun z a=>List.mem_cons.1 a,fun z a=>List.mem_cons.1 a,zS,zE⟩
   ·exact .inr (by simpa using f)
  ·exact .inr (by simpa using h)
theorem yj(f:α->β)(s:ByteArray):∀(a:List ByteArray)(b:List α),iK s a (b.map f)=((iK s a b).1,(iK s a b).2.map f)
 | [],_=>by simp[iK]
 | _ :: _,[]=>by simp[iK]
 | n :: a,k :: b=>by
  rw[List.map_cons,iK,iK,yj f s a b]
  split<;>rfl
theorem zm{d:List (K M)}(h:lx S w (d8 S w M) d v):∃(a:Option Addr)(cap:Nat)(g:List (Option Addr×K (M+1))),v=Zs a d.length cap/\g.length=d.length/\d.map (fQ M M)=g.map (·.2)/\(∀p,p∈g->d8 S w (M+1) p.2 (Zp p.1))/\(d.length≠0->∃b off,a=Zo ⟨b,off,Zn⟩/\S b/\∀j u,(g.map (fun p=>Value.pointer p.1))[j]?=Zo u->w.cell? ⟨b,off+j,Zn⟩=Zo u):=by
 obtain⟨a,cap,rfl,y,s⟩:=h;by_cases r:d=[];·subst r;exact⟨a,cap,[],rfl,rfl,rfl,fun p h=>absurd h zS,fun h=>absurd rfl h⟩
 ·obtain⟨b,off,rfl,t,e⟩:=s r;have n:∀i (h:i<d.length),∃p:Option Addr,w.cell? ⟨b,off+i,Zn⟩=Zo (Zp p)/\d8 S w (M+1) (fQ M M d[i]) (Zp p):=fun i h=>by obtain⟨c,o,k⟩:=e i h;obtain⟨q,rfl,-⟩:=k.ptr;exact⟨_,o,k.up⟩
  refine⟨_,cap,List.ofFn (fun i:Fin d.length=>((n i.1 i.2).choose,fQ M M d[i.1])),rfl,zS,?_,fun p l=>?_,fun _=>⟨b,off,rfl,t,fun j u x=>?_⟩⟩
  ·apply List.ext_getElem;·simp
   ·intro i o k;simp
  ·obtain⟨i,rfl⟩:=List.mem_ofFn.1 l;exact (n i.1 i.2).choose_spec.2
  ·obtain⟨m,rfl⟩:=List.getElem?_eq_some_iff.1 x;have f:j<d.length:=by simpa using m
   simp only[List.getElem_map,List.getElem_ofFn];exact (n j f).choose_spec.1
theorem sg{c:List ByteArray}(h:fL S w c v):∃(a:Option Addr)(cap:Nat),v=Zs a c.length cap/\(c.length≠0->∃b off,a=Zo ⟨b,off,Zn⟩/\∀j (h:j<c.length),w.cell? ⟨b,off+j,Zn⟩=Zo (Zt c[j])):=by obtain⟨a,cap,rfl,-,-,d⟩:=h;refine⟨a,cap,rfl,fun f=>?_⟩;obtain⟨b,off,h,-,d⟩:=d (fun e=>f (by rw[e];rfl));exact⟨b,off,h,d⟩
theorem WF.form {V:Zw} {e:Ending} {N:List ByteArray} {L:List (Option Addr × K (M+1))} (g:Bd S w) (t:N.length=L.length) (u:N.length<=1000) (r:∀ s,s∈N->s.size<=maxLen) (m:∀ p,p∈L->d8 S w (M+1) p.2 (Zp p.1)) (h:WF w.heap.size w (N.map Zt) (L.map fun p=>Zp p.1) e V) :
  Bw w V/\∃f c1 j c2 b c,e=Zr (Zu #[Zs (Zo ⟨b,0,Zn⟩) f c1,Zs (Zo ⟨c,0,Zn⟩) j c2])/\Calls prog 164 #[Zs (Zo ⟨b,0,Zn⟩) f c1,Zs (Zo ⟨c,0,Zn⟩) j c2] V (j8 (Ov S w.heap.size Zn V) (M+2) (⟨5,N,L.map (·.2)⟩:Kd (K (M+1))) V):=by
 obtain⟨b,c1,c,c2,rfl,⟨l,k⟩,⟨n,q⟩,d,o,hK⟩:=h;refine⟨d,N.length,c1,L.length,c2,b,c,by rw[List.length_map,List.length_map],?_⟩;refine se (Ov S w.heap.size Zn V) (M+1) N (L.map (·.2)) _ _ V (Ov.lt g d.size) ⟨_,c1,rfl,by unfold maxLen;omega,r,fun _=>⟨b,0,rfl,.inr ⟨l,k,zS⟩,fun i hi=>?_⟩⟩ ⟨_,c2,by rw[List.length_map],by rw[List.length_map];unfold maxLen;omega,fun _=>⟨c,0,rfl,.inr ⟨n,q,zS⟩,fun i hi=>?_⟩⟩;·rw[Nat.zero_add];exact o i _ (by rw[List.getElem?_map,List.getElem?_eq_getElem hi];rfl)
 ·have a:i<L.length:=by simpa using hi
  refine⟨Zp L[i].1,?_,?_⟩;·rw[Nat.zero_add];exact hK i _ (by rw[List.getElem?_map,List.getElem?_eq_getElem a];rfl)
  ·rw[List.getElem_map];exact qZ d g (m _ (List.getElem_mem a))
theorem td {N:Nat} {a b c d:Zv} {t:TypeId} (h:w.heap[N]?=Zo (Zc #[a,b,c,d] t (0,0))) :
  w.cell? ⟨N,1,Zn⟩=Zo b/\w.cell? ⟨N,2,Zn⟩=Zo c/\w.cell? ⟨N,3,Zn⟩=Zo d:=by refine⟨?_,?_,?_⟩<;>simp[World.cell?,h]
theorem zj (S:Nat->Prop) (M:Nat) (k x:K (M+1)) (C g o O cap E f:Nat) (nb no T U:Nat) (s:ByteArray) (w:Zw) (W:Bd S w) (e0:w.cell? ⟨C,8,Zn⟩=Zo (Zs (Zo ⟨g,o,Zn⟩) (O+2) cap)) (e1:w.cell? ⟨g,o,Zn⟩=Zo (Zp (Zo ⟨E,0,Zn⟩))) (e2:w.cell? ⟨g,o+1,Zn⟩=Zo (Zp (Zo ⟨f,0,Zn⟩))) (e3:w.cell? ⟨C,3,Zn⟩=Zo (Zs (Zo ⟨nb,no,Zn⟩) (T+1) U)) (e4:w.cell? ⟨nb,no,Zn⟩=Zo (Zt s)) (hs:s.size<=8) (hk:d8 S w (M+1) k (Zp (Zo ⟨E,0,Zn⟩))) (ok:gV (M+1) k=true) (h5:Kd.sort k=5) (hx:d8 S w (M+1) x (Zp (Zo ⟨f,0,Zn⟩))) :
  Calls prog 125 #[Zp (Zo ⟨C,0,Zn⟩)] w (gZ S M (zM k s x) 0 w):=by
 obtain⟨f1,f2,f3,f4,-⟩:=mp ok h5;obtain⟨b',nv,pv,kv,y,-,l,J,-,Q⟩:=id hk;injection y with y;injection y with y;injection y with y;subst y;obtain⟨na,q,rfl,P⟩:=sg J;obtain⟨R,n,m,rfl,ab,t,r,L⟩:=zm Q;obtain⟨c1,-,c3⟩:=td l;have H:Bw w w.drew:=(Below.refl _ _).drew;have HC:Hid (Calls prog 165 #[Zs na (Kd.names k).length q,Zs R (Kd.kids k).length n,Zt s,Zp (Zo ⟨f,0,Zn⟩)] w.drew (WF w.drew.heap.size w.drew ((iy s (Zp (Zo ⟨f,0,Zn⟩)) (Kd.names k) (m.map fun p=>Value.pointer p.1)).1.map Zt) (iy s (Zp (Zo ⟨f,0,Zn⟩)) (Kd.names k) (m.map fun p=>Value.pointer p.1)).2)):=by
  have:=uy na R q n (Kd.names k) (m.map fun p=>Zp p.1) s (Zo ⟨f,0,Zn⟩) w.drew (by rw[List.length_map];omega) om f4 P (fun h=>by
   obtain⟨b,off,h1,h2,h3⟩:=L om
   exact⟨b,off,h1,W b h2,h3⟩) (fun u hu=>by obtain⟨a,-,rfl⟩:=List.mem_map.1 hu;rfl)
  rw[show (Kd.kids k).length=(Kd.names k).length from f1.symm];exact this
 have HM:Hid (∀e V,WF w.drew.heap.size w.drew ((iy s (Zp (Zo ⟨f,0,Zn⟩)) (Kd.names k) (m.map fun p=>Value.pointer p.1)).1.map Zt) (iy s (Zp (Zo ⟨f,0,Zn⟩)) (Kd.names k) (m.map fun p=>Value.pointer p.1)).2 e V->Bw w V/\∃Y c1 n2 c2 X g2,e=Zr (Zu #[Zs (Zo ⟨X,0,Zn⟩) Y c1,Zs (Zo ⟨g2,0,Zn⟩) n2 c2])/\Calls prog 164 #[Zs (Zo ⟨X,0,Zn⟩) Y c1,Zs (Zo ⟨g2,0,Zn⟩) n2 c2] V (j8 (Ov S w.heap.size Zn V) (M+2) (zM k s x) V)):=fun e V h=>by
  have hm:=sK (fun p:Option Addr×K (M+1)=>Value.pointer p.1) s (Zo ⟨f,0,Zn⟩,x) (Kd.names k) m;have aa:=sK (fun p:Option Addr×K (M+1)=>p.2) s (Zo ⟨f,0,Zn⟩,x) (Kd.names k) m;rcases yp s ((Zo ⟨f,0,Zn⟩:Option Addr),x) (Kd.names k) m with ⟨p1,p2,p3,p4⟩|h'
  ·rw[hm]at h;have:=WF.form (S:=S) (w:=w.drew) (M:=M) W p4 om (fun z hz=>by unfold maxLen;rcases p2 z hz with rfl|hz<;>first|omega|(have:=f3 z hz;omega)) (fun p hp=>by
    rcases p1 p hp with rfl|hp
    ·exact hx.drew
    ·exact (r p hp).drew) h
   have he:zM k s x=(⟨5,(iy s ((Zo ⟨f,0,Zn⟩:Option Addr),x) (Kd.names k) m).1,(iy s ((Zo ⟨f,0,Zn⟩:Option Addr),x) (Kd.names k) m).2.map (·.2)⟩:Kd (K (M+1))):=by unfold zM;rw[t,aa]
   rw[he];exact⟨H.trans this.1,this.2⟩
  ·exact absurd om h'
 clear hk W P L r t ab J Q hx f1 f2 f3 f4 l ok;go_in;have d0:w.drew.cell? ⟨C,8,Zn⟩=Zo (Zs (Zo ⟨g,o,Zn⟩) (O+2) cap):=e0;have d2:w.drew.cell? ⟨g,o+1,Zn⟩=Zo (Zp (Zo ⟨f,0,Zn⟩)):=e2;have d3:w.drew.cell? ⟨C,3,Zn⟩=Zo (Zs (Zo ⟨nb,no,Zn⟩) (T+1) U):=e3;have d4:w.drew.cell? ⟨nb,no,Zn⟩=Zo (Zt s):=e4;have d5:w.drew.cell? ⟨E,1,Zn⟩=Zo (Zs na (Kd.names k).length q):=c1;have d6:w.drew.cell? ⟨E,3,Zn⟩=Zo (Zs R (Kd.kids k).length n):=c3;have l0:=b8 e0;have l2:=b8 e2;have l4:=b8 e4;have l5:=b8 c1;have ac:(0:Int)<(O:Int)+2:=om;have ad:(1:Int)<(O:Int)+2:=om;have ag:(0:Int)<(T:Int)+1:=om;generalize (Kd.names k).length=A at *;generalize (Kd.kids k).length=B at *;go_upto_region 2 with fail;refine wp_region_held_drew (S:=fun F=>F.cell? ⟨C,8,Zn⟩=Zo (Zs (Zo ⟨g,o,Zn⟩) (O+2) cap)/\F.cell? ⟨g,o+1,Zn⟩=Zo (Zp (Zo ⟨f,0,Zn⟩))/\F.cell? ⟨C,3,Zn⟩=Zo (Zs (Zo ⟨nb,no,Zn⟩) (T+1) U)/\F.cell? ⟨nb,no,Zn⟩=Zo (Zt s)/\F.cell? ⟨E,1,Zn⟩=Zo (Zs na A q)/\F.cell? ⟨E,3,Zn⟩=Zo (Zs R B n)) zK ⟨d0,d2,d3,d4,d5,d6⟩ (fun hHeld=>?_);have ae:w.drew.heap.size=w.heap.size:=rfl;have Z:=H;generalize w.drew=V at *;refine tk 0 ?_;refine tk 1 ?_;refine tk 2 ?_;refine tk 3 ?_;refine tk 4 ?_;refine tk 5 ?_;refine tk 6 ?_;refine tk 7 ?_;refine tk 8 ?_;refine tk 9 ?_;refine tk 10 ?_;refine tk 11 ?_;refine tk 12 ?_;refine tk 13 ?_;refine tk 14 ?_;refine tk 15 ?_;refine tk 16 ?_;refine tk 17 ?_;refine tk 18 ?_;refine tk 19 ?_;refine tk 20 ?_;refine iT 21 fun K hK=>?_;go_simp;go_at_call 165;refine HC.out.mono ?_;intro e w1 G;obtain⟨D,Y,q1,n2,q2,X,g2,rfl,hF⟩:=HM.out e w1 G;have N:=Lib.hid hF;clear G hF;have ah:_:=hHeld;have d:∀(b i:Nat)(v:Zv),b<w.heap.size->V.cell? ⟨b,i,Zn⟩=Zo v->w1.cell? ⟨b,i,Zn⟩=Zo v:=fun b i v hb h=>by rw[D.cell (p:=⟨b,i,Zn⟩) hb,<- Z.cell (p:=⟨b,i,Zn⟩) hb];exact h
 have c:=(⟨d _ _ _ om d0,d _ _ _ om d2,d _ _ _ om d3,d _ _ _ om d4,d _ _ _ om d5,d _ _ _ om d6⟩:_/\_/\_/\_/\_/\_);refine hK.out _ _ c (fun hHeld=>?_);clear hK K HC HM d;refine tk 22 ?_;refine tk 23 ?_;refine iT 24 fun K hK=>?_;go_simp;go_at_call 164;refine N.out.mono ?_;intro e w2 G;obtain⟨j,b,rfl,r⟩:=id G;have HF:=Lib.hid (j8.make (M:=M) (S:=S) (b:=b) D G rfl);clear G r;have af:=D.size;refine hK.out _ _ ⟨kC j c.1 om,kC j c.2.1 om,kC j c.2.2.1 om,kC j c.2.2.2.1 om,kC j c.2.2.2.2.1 om,kC j c.2.2.2.2.2 om⟩ (fun hHeld=>?_);clear hK K N c;refine tk 25 ?_;refine tk 26 ?_;refine wpAnyH_done zK ?_ _;go_simp;go_wp2_with fail;refine bodyPost_ret (by simp[results,results125,go_sem];rfl) rfl ?_;exact HF.out
theorem yg (S:Nat->Prop) (M:Nat) (k:K (M+1)) (O g o ln cap q:Nat) (nb no R nc:Nat) (s:ByteArray) (w:Zw) (hB:Bd S w) (e0:w.cell? ⟨O,8,Zn⟩=Zo (Zs (Zo ⟨g,o,Zn⟩) (ln+1) cap)) (e1:w.cell? ⟨g,o,Zn⟩=Zo (Zp (Zo ⟨q,0,Zn⟩))) (e3:w.cell? ⟨O,3,Zn⟩=Zo (Zs (Zo ⟨nb,no,Zn⟩) (R+1) nc)) (e4:w.cell? ⟨nb,no,Zn⟩=Zo (Zt s)) (hs:s.size<=maxLen) (hk:d8 S w (M+1) k (Zp (Zo ⟨q,0,Zn⟩))) (ok:gV (M+1) k=true) (h5:Kd.sort k=5) (r:K (M+2) × Int) (hr:r=match mL k s with|Zo _=>(zr k s,0)|Zn=>(zU,8)) :
  Calls prog 126 #[Zp (Zo ⟨O,0,Zn⟩)] w (gZ S M r.1 r.2 w):=by
 obtain⟨f1,f2,f3,f4,-⟩:=mp ok h5;obtain⟨b',nv,X,kv,y,-,c,F,E,L⟩:=id hk.drew.drew;injection y with y;injection y with y;injection y with y;subst y;obtain⟨na,t,rfl,J⟩:=sg F;obtain⟨ka,n,d,rfl,Y,l,m,H⟩:=zm L;obtain⟨c1,c2,c3⟩:=td c;have N:=(E h5).keep (S':=S) (w':=w.drew) (fun _ _=>rfl) (fun _ h=>h);have aa:(0:Int)<(ln:Int)+1:=om;have ad:(0:Int)<(R:Int)+1:=om;have d3:w.drew.cell? ⟨O,3,Zn⟩=Zo (Zs (Zo ⟨nb,no,Zn⟩) (R+1) nc):=e3;have d4:w.drew.cell? ⟨nb,no,Zn⟩=Zo (Zt s):=e4;have d5:w.drew.cell? ⟨q,2,Zn⟩=Zo X:=c2;have l5:=b8 c1;by_cases T:s∈Kd.names k
 ·obtain⟨i,hi,rfl⟩:=List.getElem_of_mem T;have Z:i<(Kd.kids k).length:=om;have C:=yL N f4 i hi (by unfold maxLen at hs ⊢;omega);have G:r=(zr k (Kd.names k)[i],0):=by rw[hr];unfold mL;rw[nA _ _ i hi Z f4];rfl
  subst G;have HC:Hid (Calls prog 166 #[Zs na (Kd.names k).length t,Zs ka (Kd.kids k).length n,Zi Zk i] w.drew.drew (WF w.drew.drew.heap.size w.drew.drew (((Kd.names k).take i++(Kd.names k).drop (i+1)).map Zt) (((d.map (·.1)).take i++(d.map (·.1)).drop (i+1)).map Zp))):=by
   have:=qQ na ka t n i (Kd.names k) (d.map (·.1)) w.drew.drew (by rw[List.length_map];omega) om hi J (fun h=>by
    obtain⟨b,off,h1,h2,h3⟩:=H om
    exact⟨b,off,h1,hB b h2,fun j u hj=>h3 j u (by rw[List.map_map]at hj;exact hj)⟩)
   rw[show (Kd.kids k).length=(Kd.names k).length from f1.symm];exact this
  have Q:Bw w w.drew.drew:=(Below.refl _ _).drew.drew;have HM:Hid (∀e V,WF w.drew.drew.heap.size w.drew.drew (((Kd.names k).take i++(Kd.names k).drop (i+1)).map Zt) (((d.map (·.1)).take i++(d.map (·.1)).drop (i+1)).map Zp) e V->Bw w V/\∃n1 c1 n2 c2 g1 g2,e=Zr (Zu #[Zs (Zo ⟨g1,0,Zn⟩) n1 c1,Zs (Zo ⟨g2,0,Zn⟩) n2 c2])/\Calls prog 164 #[Zs (Zo ⟨g1,0,Zn⟩) n1 c1,Zs (Zo ⟨g2,0,Zn⟩) n2 c2] V (j8 (Ov S w.heap.size Zn V) (M+2) (zr k (Kd.names k)[i]) V)):=fun e V h=>by
   have h':WF w.drew.drew.heap.size w.drew.drew (((Kd.names k).take i++(Kd.names k).drop (i+1)).map Zt) ((d.take i++d.drop (i+1)).map fun p=>Zp p.1) e V:=by rw[show ((d.take i++d.drop (i+1)).map fun p=>Value.pointer p.1)=(((d.map (·.1)).take i++(d.map (·.1)).drop (i+1)).map Zp) by simp[List.map_take,List.map_drop,Function.comp_def]];exact h
   have:=WF.form (S:=S) (w:=w.drew.drew) (M:=M) hB zE zE (fun z hz=>by
    have:=f3 z ((List.mem_append.1 hz).elim List.mem_of_mem_take List.mem_of_mem_drop)
    unfold maxLen;omega) (fun p N=>m p ((List.mem_append.1 N).elim List.mem_of_mem_take List.mem_of_mem_drop)) h'
   have he:zr k (Kd.names k)[i]=(⟨5,(Kd.names k).take i++(Kd.names k).drop (i+1),(d.take i++d.drop (i+1)).map (·.2)⟩:Kd (K (M+1))):=by unfold zr;rw[l,yj,BA _ (Kd.names k) d i om f4 hi rfl]
   rw[he];exact⟨Q.trans this.1,this.2⟩
  clear hk hB J H m l Y F L f1 f2 f3 f4 c ok hr E N T Z;generalize (Kd.names k)[i]=s at *;generalize (Kd.names k).length=A at *;generalize (Kd.kids k).length=B at *;go_in;go_upto_region 2 with fail;refine wp_region_held_drew (S:=fun a=>a.cell? ⟨O,3,Zn⟩=Zo (Zs (Zo ⟨nb,no,Zn⟩) (R+1) nc)/\a.cell? ⟨nb,no,Zn⟩=Zo (Zt s)/\a.cell? ⟨q,2,Zn⟩=Zo X/\(Instr.lookup 115 X (Zt s) true).run prog a=.ok (Zu #[Zi Zk i,Zb true]) a) zK ⟨d3,d4,d5,C⟩ (fun hHeld=>?_);refine tk 0 ?_;refine tk 1 ?_;refine tk 2 ?_;refine tk 3 ?_;refine tk 4 ?_;refine tk 5 ?_;refine tk 6 ?_;refine tk 7 ?_;refine tk 8 ?_;refine tk 9 ?_;refine tk 10 ?_;refine tk 11 ?_;refine tk 12 ?_;refine tk 13 ?_;refine tk 14 ?_;refine tk 15 ?_;refine tk 16 ?_;refine wpAnyH_done zK ?_ _;go_simp;clear hHeld;go_upto_region 5 with fail;have d6:w.drew.drew.cell? ⟨q,1,Zn⟩=Zo (Zs na A t):=c1;have d7:w.drew.drew.cell? ⟨q,3,Zn⟩=Zo (Zs ka B n):=c3;refine wp_region_held_drew (S:=fun a=>a.cell? ⟨q,1,Zn⟩=Zo (Zs na A t)/\a.cell? ⟨q,3,Zn⟩=Zo (Zs ka B n)) zK ⟨d6,d7⟩ (fun hHeld=>?_);have ab:w.drew.drew.heap.size=w.heap.size:=rfl;generalize w.drew.drew=V at *;refine tk 0 ?_;refine tk 1 ?_;refine tk 2 ?_;refine tk 3 ?_;refine tk 4 ?_;refine tk 5 ?_;refine tk 6 ?_;refine tk 7 ?_;refine tk 8 ?_;refine iT 9 fun K hK=>?_;go_simp;go_at_call 166;refine HC.out.mono ?_;intro e w1 P;obtain⟨I,n1,q1,n2,q2,g1,g2,rfl,hF⟩:=HM.out e w1 P;have W:=Lib.hid hF;clear P hF;have D:∀(b i:Nat)(v:Zv),b<w.heap.size->V.cell? ⟨b,i,Zn⟩=Zo v->w1.cell? ⟨b,i,Zn⟩=Zo v:=fun b i v hb h=>by rw[I.cell (p:=⟨b,i,Zn⟩) hb,<- Q.cell (p:=⟨b,i,Zn⟩) hb];exact h
  have x:=(⟨D _ _ _ om d6,D _ _ _ om d7⟩:_/\_);refine hK.out _ _ x (fun hHeld=>?_);clear hK K HC HM D;refine tk 10 ?_;refine tk 11 ?_;refine iT 12 fun K hK=>?_;go_simp;go_at_call 164;refine W.out.mono ?_;intro e w2 P;obtain⟨U,b,rfl,m⟩:=id P;have HF:=Lib.hid (j8.make (M:=M) (S:=S) (b:=b) I P rfl);clear P m;have ac:=I.size;refine hK.out _ _ ⟨kC U x.1 om,kC U x.2 om⟩ (fun hHeld=>?_);clear hK K W x;refine tk 13 ?_;refine tk 14 ?_;refine wpAnyH_done zK ?_ _;go_simp;go_wp2_with fail;refine bodyPost_ret (by simp[results,results126,go_sem];rfl) rfl ?_;exact HF.out
 ·obtain⟨i,C⟩:=Ch N s T hs;have G:r=(zU,8):=by rw[hr];unfold mL;rw[oO _ _ s T];rfl
  subst G;have HF:Hid (gZ S M (zU:K (M+2)) 8 w (Zr (Zu #[Zp Zn,Zi Zk 8])) w.drew):=⟨(Below.refl _ _).drew,.inr ⟨zC,rfl⟩⟩;clear hk hB J H m l Y F L f1 f2 f3 f4 c ok hr E N T;go_in;go_upto_region 2 with fail;refine wp_region_held_drew (S:=fun a=>a.cell? ⟨O,3,Zn⟩=Zo (Zs (Zo ⟨nb,no,Zn⟩) (R+1) nc)/\a.cell? ⟨nb,no,Zn⟩=Zo (Zt s)/\a.cell? ⟨q,2,Zn⟩=Zo X/\(Instr.lookup 115 X (Zt s) true).run prog a=.ok (Zu #[Zi Zk i,Zb false]) a) zK ⟨d3,d4,d5,C⟩ (fun hHeld=>?_);refine tk 0 ?_;refine tk 1 ?_;refine tk 2 ?_;refine tk 3 ?_;refine tk 4 ?_;refine tk 5 ?_;refine tk 6 ?_;refine tk 7 ?_;refine tk 8 ?_;refine tk 9 ?_;refine tk 10 ?_;refine tk 11 ?_;refine tk 12 ?_;refine tk 13 ?_;refine tk 14 ?_;refine tk 15 ?_;refine tk 16 ?_;refine wpAnyH_done zK ?_ _;go_simp;clear hHeld;go_wp2_with fail;refine bodyPost_ret (v:=Zu #[Zp Zn,Zi Zk 8]) (by simp[results,results126,go_sem]) rfl ?_;exact HF.out
end Go.Proofs.YtcfojmaccikgeaaGreatDoor
