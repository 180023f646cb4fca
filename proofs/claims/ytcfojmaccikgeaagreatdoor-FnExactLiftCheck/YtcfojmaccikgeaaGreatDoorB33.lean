import Derived.Test.YtcfojmaccikgeaaGreatDoorB32
open Go.Value renaming slice→Zs,int→Zi,string→Zt,agg→Za,tuple→Zu
open Go.IntKind renaming i64→Zk
open Go.Ending renaming returned→Zr
open Go.Obj renaming cells→Zc
open Option renaming none→Zn,some→Zo
open Go renaming World→Zw,Value→Zv
open Nat renaming lt_of_lt_of_le→Zd
open Go.RowKit.Below renaming heap_alloc→Zh
open List renaming getElem_mem→Zg
open ByteArray renaming empty→Ze
namespace Go.Proofs.YtcfojmaccikgeaaGreatDoor
open Go.RowKit Go.Proofs.Tryz
set_option maxRecDepth 100000
set_option maxHeartbeats 16000000
variable {M m n:Nat} {S:ZP} {w V w' W:Zw} {c0 c1 c2:Zv}
def gP{M:Nat}(op:Int)(names:List ZN)(i:Nat)(a:List (K (M+1)))(l:List (ZN×K (M+1))):List (ZN×K (M+1)):=
 if (op=20∨op=42)/\i=1 then l++[(names.getD 0 Ze,a.getD 0 zU)]
 else if (op=32∨op=33∨op=34∨op=43)/\i=1 then l++[(names.getD 0 Ze,mQ (a.getD 0 zU))]
 else if op=35/\i=2 then (l++[(names.getD 0 Ze,a.getD 1 zU)])++[(names.getD 1 Ze,mQ (a.getD 0 zU))]
 else l
theorem vt(op:Int)(names:List ZN)(i:Nat)(a:List (K (M+1)))(l:List (ZN×K (M+1))):jU op names i a l.reverse=(gP op names i a l).reverse:=by
 unfold jU gP;split;·simp
 ·split;·simp
  ·split<;>simp
theorem vs(op:Int)(names:List ZN)(i:Nat)(a:List (K (M+1)))(l:List (ZN×K (M+1))):(gP op names i a l).length<=l.length+2:=by
 unfold gP;split;·simp
 ·split;·simp
  ·split<;>simp
theorem jt.wide{l:List (ZN×K m)}{e:Ending}(h:jt S m l V e w')(c:Bw w V):jt S m l w e w':=by
 obtain⟨a,v,f,d⟩:=h;have g:=c.size;refine⟨c.trans (a.mono c.size),v,f,d.keep (fun _ _=>rfl) fun b a=>?_⟩;rcases a with a|a;·exact .inl a
 ·exact .inr ⟨om,a.2⟩
theorem jt.none{l:List (ZN×K m)}{v:Zv}(h:jf S w m l v)(b:Bd S w)(a:Bw w w'):jt S m l w (Zr v) w':=
 ⟨a,v,rfl,h.keep (a6 a b) fun _ a=>.inl a⟩
theorem oW (op:Int) (a:op=20∨op=42∨op=32∨op=33∨op=34∨op=43) (P:Ending->Zw->Prop) (f:Int) (g:ZN) (na ka:ZO) (d c kl kc:Nat) (v j:Zv) (w:Zw) (i:Nat) (hi:((i:Int)==1)=false) (b:∀ e,Bw w e->P (Zr v) e) :
  Calls prog 74 #[v,Za #[Zi Zk op,Zi Zk f,Zt g,Zs na d c,Zs ka kl kc],Zi Zk (i:Int),j] w P:=by
 have h:=Lib.hid (b _ ((Below.refl w.heap.size w).alloc (Nat.le_refl _) (Zc #[Zi Zk op,Zi Zk f,Zt g,Zs na d c,Zs ka kl kc] 40)));clear b;rcases a with rfl|rfl|rfl|rfl|rfl|rfl;all_goals
  go_in
  go_wp2_with fail
  exact h.out
theorem BA (P:Ending->Zw->Prop) (e:Int) (f:ZN) (na ka:ZO) (c b kl kc:Nat) (v h:Zv) (w:Zw) (i:Nat) (hi:((i:Int)==2)=false) (a:∀ d,Bw w d->P (Zr v) d) :
  Calls prog 74 #[v,Za #[Zi Zk 35,Zi Zk e,Zt f,Zs na c b,Zs ka kl kc],Zi Zk (i:Int),h] w P:=by have g:=Lib.hid (a _ ((Below.refl w.heap.size w).alloc (Nat.le_refl _) (Zc #[Zi Zk 35,Zi Zk e,Zt f,Zs na c b,Zs ka kl kc] 40)));clear a;go_in;go_wp2_with fail;exact g.out
theorem En (P:Ending->Zw->Prop) (e:Int) (f:ZN) (na ka:ZO) (c b kl kc:Nat) (v h:Zv) (w:Zw) (op:Int) (i:Nat) (j:(op==20)=false) (o:(op==42)=false) (k:(op==32)=false) (l:(op==33)=false) (m:(op==34)=false) (p:(op==43)=false) (n:(op==35)=false) (a:∀ d,Bw w d->P (Zr v) d) :
  Calls prog 74 #[v,Za #[Zi Zk op,Zi Zk e,Zt f,Zs na c b,Zs ka kl kc],Zi Zk (i:Int),h] w P:=by have g:=Lib.hid (a _ ((Below.refl w.heap.size w).alloc (Nat.le_refl _) (Zc #[Zi Zk op,Zi Zk e,Zt f,Zs na c b,Zs ka kl kc] 40)));clear a;go_in;go_wp2_with fail;exact g.out
theorem Cv (op:Int) (D:op=20∨op=42) (P:Ending->Zw->Prop) (F:Int) (G:ZN) (ka:ZO) (h r kl kc:Nat) (v:Zv) (w:Zw) (p q:Nat) (nm:ZN) (H:p<w.heap.size) (J:0<h) (g0:w.cell? ⟨p,q,Zn⟩=Zo (Zt nm)) (b off n cap:Nat) (g:b<w.heap.size) (L:0<n) (x:Int) (y s:ZO) (A z u t:Nat) (f0:w.cell? ⟨b,off,Zn⟩=Zo (Zi Zk x)) (f1:w.cell? ⟨b,off+1,Zn⟩=Zo (Zs y A z)) (f2:w.cell? ⟨b,off+2,Zn⟩=Zo (Zs s u t)) (B:∀ V,Bw w V->Calls prog 100 #[v,Zt nm,Za #[Zi Zk x,Zs y A z,Zs s u t]] V fun e c=>∃ v,e=Zr v/\Bw V c/\P (Zr v) c) :
  Calls prog 74 #[v,Za #[Zi Zk op,Zi Zk F,Zt G,Zs (Zo ⟨p,q,Zn⟩) h r,Zs ka kl kc],Zi Zk 1,Zs (Zo ⟨b,off,Zn⟩) n cap] w P:=by
 obtain⟨W,l⟩:=ii (w.alloc (Zc #[Zi Zk op,Zi Zk F,Zt G,Zs (Zo ⟨p,q,Zn⟩) h r,Zs ka kl kc] 40));have a:Bw w W:=by rw[l];exact gx _ _
 have d:=heap_alloc_last w (Zc #[Zi Zk op,Zi Zk F,Zt G,Zs (Zo ⟨p,q,Zn⟩) h r,Zs ka kl kc] 40);have E:w.heap.size<W.heap.size:=by rw[l];simp
 rw[<- l]at d;obtain⟨z0,N,z2,z3,z4⟩:=fZ d;have g0:=kC a g0 H;have f0:=kC a f0 g;have f1:=kC a f1 g;have f2:=kC a f2 g;have C:Hid (∀V,Bw W V->(fun (c:Zw)=>c.cell? ⟨w.heap.size,3,Zn⟩=Zo (Zs (Zo ⟨p,q,Zn⟩) h r)/\c.cell? ⟨p,q,Zn⟩=Zo (Zt nm)/\c.cell? ⟨b,off,Zn⟩=Zo (Zi Zk x)/\c.cell? ⟨b,off+1,Zn⟩=Zo (Zs y A z)/\c.cell? ⟨b,off+2,Zn⟩=Zo (Zs s u t)) V):=fun V k=>⟨kC k z3 E,kC k g0 (Zd H a.size),kC k f0 (Zd g a.size),kC k f1 (Zd g a.size),kC k f2 (Zd g a.size)⟩;have i:=a7 a;have f:Bw W W.drew:=(Below.refl _ _).drew;have B:=Lib.hid B;clear a d;rcases D with rfl|rfl;all_goals
  go_in
  go_wp2_with fail
  rw[<- l]
  clear l
  refine wp_region_held_drew (S:=(fun c=>c.cell? ⟨w.heap.size,3,Zn⟩=Zo (Zs (Zo ⟨p,q,Zn⟩) h r)/\c.cell? ⟨p,q,Zn⟩=Zo (Zt nm)/\c.cell? ⟨b,off,Zn⟩=Zo (Zi Zk x)/\c.cell? ⟨b,off+1,Zn⟩=Zo (Zs y A z)/\c.cell? ⟨b,off+2,Zn⟩=Zo (Zs s u t))) zK (by exact⟨z3,g0,f0,f1,f2⟩) (fun hHeld=>?_)
  refine tk 0 ?_
  refine tk 1 ?_
  refine tk 2 ?_
  refine tk 3 ?_
  refine tk 4 ?_
  refine tk 5 ?_
  refine tk 6 ?_
  refine tk 7 ?_
  refine i6 8 fun K hK=>?_
  go_simp
  go_at_call 100
  refine (B.out W.drew (i.out.trans (f.mono i.out.size))).mono ?_
  rintro e w1 ⟨M,rfl,m,j⟩
  have o:Bw W w1:=f.trans (m.mono f.size)
  refine hK.out _ _ (C.out _ o) (fun hHeld=>?_)
  clear hK K
  have I:=Lib.hid j
  clear j m o
  refine tk 9 ?_
  refine wpAnyH_done zK ?_ _
  go_simp
  go_wp2_with fail
  exact I.out
theorem sy (op:Int) (I:op=32∨op=33∨op=34∨op=43) (P:Ending->Zw->Prop) (L:Int) (M:ZN) (ka:ZO) (m x kl kc:Nat) (v:Zv) (w:Zw) (p q:Nat) (nm:ZN) (O:p<w.heap.size) (T:0<m) (g0:w.cell? ⟨p,q,Zn⟩=Zo (Zt nm)) (b off n cap:Nat) (N:b<w.heap.size) (U:0<n) (C:Int) (D z:ZO) (F E B A:Nat) (g a y i:Nat) (h:g<w.heap.size) (R:0<y) (f:w.cell? ⟨b,off+2,Zn⟩=Zo (Zs (Zo ⟨g,a,Zn⟩) y i)) (f0:w.cell? ⟨g,a,Zn⟩=Zo (Zi Zk C)) (f1:w.cell? ⟨g,a+1,Zn⟩=Zo (Zs D F E)) (f2:w.cell? ⟨g,a+2,Zn⟩=Zo (Zs z B A)) (G:∀ V,Bw w V->Calls prog 100 #[v,Zt nm,Za #[Zi Zk C,Zs D F E,Zs z B A]] V fun e d=>∃ v,e=Zr v/\Bw V d/\P (Zr v) d) :
  Calls prog 74 #[v,Za #[Zi Zk op,Zi Zk L,Zt M,Zs (Zo ⟨p,q,Zn⟩) m x,Zs ka kl kc],Zi Zk 1,Zs (Zo ⟨b,off,Zn⟩) n cap] w P:=by
 obtain⟨W,s⟩:=ii (w.alloc (Zc #[Zi Zk op,Zi Zk L,Zt M,Zs (Zo ⟨p,q,Zn⟩) m x,Zs ka kl kc] 40));have c:Bw w W:=by rw[s];exact gx _ _
 have j:=heap_alloc_last w (Zc #[Zi Zk op,Zi Zk L,Zt M,Zs (Zo ⟨p,q,Zn⟩) m x,Zs ka kl kc] 40);have J:w.heap.size<W.heap.size:=by rw[s];simp
 rw[<- s]at j;obtain⟨z0,Y,z2,z3,z4⟩:=fZ j;have g0:=kC c g0 O;have f:=kC c f N;have f0:=kC c f0 h;have f1:=kC c f1 h;have f2:=kC c f2 h;have H:Hid (∀V,Bw W V->(fun (d:Zw)=>d.cell? ⟨w.heap.size,3,Zn⟩=Zo (Zs (Zo ⟨p,q,Zn⟩) m x)/\d.cell? ⟨p,q,Zn⟩=Zo (Zt nm)/\d.cell? ⟨b,off+2,Zn⟩=Zo (Zs (Zo ⟨g,a,Zn⟩) y i)/\d.cell? ⟨g,a,Zn⟩=Zo (Zi Zk C)/\d.cell? ⟨g,a+1,Zn⟩=Zo (Zs D F E)/\d.cell? ⟨g,a+2,Zn⟩=Zo (Zs z B A)) V):=fun V l=>⟨kC l z3 J,kC l g0 (Zd O c.size),kC l f (Zd N c.size),kC l f0 (Zd h c.size),kC l f1 (Zd h c.size),kC l f2 (Zd h c.size)⟩;have o:=a7 c;have k:Bw W W.drew:=(Below.refl _ _).drew;have G:=Lib.hid G;clear c j;rcases I with rfl|rfl|rfl|rfl;all_goals
  go_in
  go_wp2_with fail
  rw[<- s]
  clear s
  refine wp_region_held_drew (S:=(fun d=>d.cell? ⟨w.heap.size,3,Zn⟩=Zo (Zs (Zo ⟨p,q,Zn⟩) m x)/\d.cell? ⟨p,q,Zn⟩=Zo (Zt nm)/\d.cell? ⟨b,off+2,Zn⟩=Zo (Zs (Zo ⟨g,a,Zn⟩) y i)/\d.cell? ⟨g,a,Zn⟩=Zo (Zi Zk C)/\d.cell? ⟨g,a+1,Zn⟩=Zo (Zs D F E)/\d.cell? ⟨g,a+2,Zn⟩=Zo (Zs z B A))) zK (by exact⟨z3,g0,f,f0,f1,f2⟩) (fun hHeld=>?_)
  refine tk 0 ?_
  refine tk 1 ?_
  refine tk 2 ?_
  refine tk 3 ?_
  refine tk 4 ?_
  refine tk 5 ?_
  refine tk 6 ?_
  refine tk 7 ?_
  refine tk 8 ?_
  refine tk 9 ?_
  refine tk 10 ?_
  refine i6 11 fun K hK=>?_
  go_simp
  go_at_call 100
  refine (G.out W.drew (o.out.trans (k.mono o.out.size))).mono ?_
  rintro e w1 ⟨X,rfl,t,r⟩
  have u:Bw W w1:=k.trans (t.mono k.size)
  refine hK.out _ _ (H.out _ u) (fun hHeld=>?_)
  clear hK K
  have Q:=Lib.hid r
  clear r t u
  refine tk 12 ?_
  refine wpAnyH_done zK ?_ _
  go_simp
  go_wp2_with fail
  exact Q.out
theorem Iw (P:Ending->Zw->Prop) (x1:Int) (x2:ZN) (ka:ZO) (t D kl kc:Nat) (v:Zv) (w:Zw) (p q:Nat) (nm:ZN) (Q:p<w.heap.size) (ag:0<t) (ad:(1:Int)<(t:Int)) (g0:w.cell? ⟨p,q,Zn⟩=Zo (Zt nm)) (b off n cap:Nat) (r:b<w.heap.size) (hn:0<n) (ae:(1:Int)<(n:Int)) (Z:Int) (ua U:ZO) (ul uc Y X:Nat) (o:ZN) (g1:w.cell? ⟨p,q+1,Zn⟩=Zo (Zt o)) (a0:Int) (F I:ZO) (H G L J:Nat) (M:w.cell? ⟨b,off+3,Zn⟩=Zo (Zi Zk a0)) (N:w.cell? ⟨b,off+3+1,Zn⟩=Zo (Zs F H G)) (O:w.cell? ⟨b,off+3+2,Zn⟩=Zo (Zs I L J)) (g c T i:Nat) (h:g<w.heap.size) (af:0<T) (f:w.cell? ⟨b,off+2,Zn⟩=Zo (Zs (Zo ⟨g,c,Zn⟩) T i)) (f0:w.cell? ⟨g,c,Zn⟩=Zo (Zi Zk Z)) (f1:w.cell? ⟨g,c+1,Zn⟩=Zo (Zs ua ul uc)) (f2:w.cell? ⟨g,c+2,Zn⟩=Zo (Zs U Y X)) (R:Zv->Zw->Prop) (E:(∀ V,Bw w V->Calls prog 100 #[v,Zt nm,Za #[Zi Zk a0,Zs F H G,Zs I L J]] V fun e d=>∃ v,e=Zr v/\Bw V d/\R v d)/\∀ v V,Bw w V->R v V->Calls prog 100 #[v,Zt o,Za #[Zi Zk Z,Zs ua ul uc,Zs U Y X]] V fun e d=>∃ v,e=Zr v/\Bw V d/\P (Zr v) d) :
  Calls prog 74 #[v,Za #[Zi Zk 35,Zi Zk x1,Zt x2,Zs (Zo ⟨p,q,Zn⟩) t D,Zs ka kl kc],Zi Zk 2,Zs (Zo ⟨b,off,Zn⟩) n cap] w P:=by
 obtain⟨W,z⟩:=ii (w.alloc (Zc #[Zi Zk 35,Zi Zk x1,Zt x2,Zs (Zo ⟨p,q,Zn⟩) t D,Zs ka kl kc] 40));have a:Bw w W:=by rw[z];exact gx _ _
 have j:=heap_alloc_last w (Zc #[Zi Zk 35,Zi Zk x1,Zt x2,Zs (Zo ⟨p,q,Zn⟩) t D,Zs ka kl kc] 40);have ab:w.heap.size<W.heap.size:=by rw[z];simp
 rw[<- z]at j;obtain⟨z0,z1,z2,z3,z4⟩:=fZ j;have g0:=kC a g0 Q;have g1:=kC a g1 Q;have M:=kC a M r;have N:=kC a N r;have O:=kC a O r;have f:=kC a f r;have f0:=kC a f0 h;have f1:=kC a f1 h;have f2:=kC a f2 h;have u:Hid (∀V,Bw W V->(fun (d:Zw)=>d.cell? ⟨w.heap.size,3,Zn⟩=Zo (Zs (Zo ⟨p,q,Zn⟩) t D)/\d.cell? ⟨p,q,Zn⟩=Zo (Zt nm)/\d.cell? ⟨p,q+1,Zn⟩=Zo (Zt o)/\d.cell? ⟨b,off+3,Zn⟩=Zo (Zi Zk a0)/\d.cell? ⟨b,off+3+1,Zn⟩=Zo (Zs F H G)/\d.cell? ⟨b,off+3+2,Zn⟩=Zo (Zs I L J)/\d.cell? ⟨b,off+2,Zn⟩=Zo (Zs (Zo ⟨g,c,Zn⟩) T i)/\d.cell? ⟨g,c,Zn⟩=Zo (Zi Zk Z)/\d.cell? ⟨g,c+1,Zn⟩=Zo (Zs ua ul uc)/\d.cell? ⟨g,c+2,Zn⟩=Zo (Zs U Y X)) V):=fun V l=>⟨kC l z3 ab,kC l g0 (Zd Q a.size),kC l g1 (Zd Q a.size),kC l M (Zd r a.size),kC l N (Zd r a.size),kC l O (Zd r a.size),kC l f (Zd r a.size),kC l f0 (Zd h a.size),kC l f1 (Zd h a.size),kC l f2 (Zd h a.size)⟩;have m:=a7 a;have s:Bw W W.drew:=(Below.refl _ _).drew;have E:=Lib.hid E;clear a j;go_in;go_wp2_with fail;rw[<- z];clear z;refine wp_region_held_drew (S:=(fun d=>d.cell? ⟨w.heap.size,3,Zn⟩=Zo (Zs (Zo ⟨p,q,Zn⟩) t D)/\d.cell? ⟨p,q,Zn⟩=Zo (Zt nm)/\d.cell? ⟨p,q+1,Zn⟩=Zo (Zt o)/\d.cell? ⟨b,off+3,Zn⟩=Zo (Zi Zk a0)/\d.cell? ⟨b,off+3+1,Zn⟩=Zo (Zs F H G)/\d.cell? ⟨b,off+3+2,Zn⟩=Zo (Zs I L J)/\d.cell? ⟨b,off+2,Zn⟩=Zo (Zs (Zo ⟨g,c,Zn⟩) T i)/\d.cell? ⟨g,c,Zn⟩=Zo (Zi Zk Z)/\d.cell? ⟨g,c+1,Zn⟩=Zo (Zs ua ul uc)/\d.cell? ⟨g,c+2,Zn⟩=Zo (Zs U Y X))) zK (by exact⟨z3,g0,g1,M,N,O,f,f0,f1,f2⟩) (fun hHeld=>?_);refine tk 0 ?_;refine tk 1 ?_;refine tk 2 ?_;refine tk 3 ?_;refine tk 4 ?_;refine tk 5 ?_;refine tk 6 ?_;refine tk 7 ?_;refine tk 9 ?_;refine tk 10 ?_;refine tk 11 ?_;refine tk 12 ?_;refine tk 13 ?_;refine tk 14 ?_;refine tk 15 ?_;refine tk 16 ?_;refine tk 17 ?_;refine tk 18 ?_;refine i6 8 fun K hK=>?_;go_simp;go_at_call 100;refine (E.out.1 W.drew (m.out.trans (s.mono m.out.size))).mono ?_;rintro e w1 ⟨v1,rfl,A,x⟩;have k:Bw W w1:=s.trans (A.mono s.size);refine hK.out _ _ (u.out _ k) (fun hHeld=>?_);clear hK K;refine i6 19 fun K hK=>?_;go_simp;go_at_call 100;refine (E.out.2 _ _ (m.out.trans (k.mono m.out.size)) x).mono ?_;rintro e w2 ⟨v2,rfl,B,y⟩;have C:Bw W w2:=k.trans (B.mono k.size);refine hK.out _ _ (u.out _ C) (fun hHeld=>?_);clear hK K;have HP:=Lib.hid y;clear x A k y B C;refine tk 20 ?_;refine wpAnyH_done zK ?_ _;go_simp;go_wp2_with fail;exact HP.out
theorem rz (M m:Nat) (S S1:ZP) (t:T (m+1)) (l:List (ZN × K (M+1))) (a:List (K (M+1))) (i:Nat) (c0 c1 c2 c3 c4 v Q:Zv) (w:Zw) (ht:fT S w (m+1) t c0 c1 c2 c3 c4) (hv:jf S w (M+1) l v) (hr:gO S1 w (a8 S w (M+1)) a Q) (F:Bd S w) (H:Bd S1 w) (hl:l.length<=2000000) (aw:a.length=i) (P:Nd.sort t=40∨Nd.sort t=41∨∀ x,x∈a->gF (M+1) x=true) (an:qt (Nd.sort t) (Nd.names t) i a) :
  Calls prog 74 #[v,Za #[c0,c1,c2,c3,c4],Zi Zk (i:Int),Q] w (jt S (M+1) (gP (Nd.sort t) (Nd.names t) i a l) w):=by
 obtain⟨rfl,rfl,rfl,hs,aG,aH,h3,h4,⟨na,nl,nc,rfl,aB⟩,⟨ka,kl,kc,rfl,aC⟩⟩:=ht;obtain⟨n,W,o3,o4,o5⟩:=an;have G:∀l',gP (Nd.sort t) (Nd.names t) i a l=l'->l'=l->∀X,Bw w X->jt S (M+1) (gP (Nd.sort t) (Nd.names t) i a l) w (Zr v) X:=fun l' h1 h2 X A=>by rw[h1,h2];exact jt.none hv F A
 have HB:∀(x:ZN)(k:K (M+1))(d0 d1 d2:Zv),x.size<=maxLen->a8 S w (M+1) k d0 d1 d2->∀V,Bw w V->Calls prog 100 #[v,Zt x,Za #[d0,d1,d2]] V fun e X=>∃v,e=Zr v/\Bw V X/\jt S (M+1) (l++[(x,k)]) w (Zr v) X:=by intro x k d0 d1 d2 U hk V R;refine (ru (M+1) S l v x k d0 d1 d2 V (hv.keep (a6 R F) fun _ h=>h) (hk.keep (a6 R F) fun _ h=>h) (fun b A=>Zd (F b A) R.size) om U).mono ?_;rintro e X h;obtain⟨A,v',rfl,-⟩:=id h;exact⟨v',rfl,A,h.wide R⟩
 generalize aE:Nd.sort t=op at *;generalize aD:Nd.names t=ns at *;by_cases ab:op=20
 ·subst ab;by_cases hi:i=1
  ·subst hi;obtain⟨p,q,cap,z,L,o⟩:=ki h3 F (by have:=n zS;omega);cases z
   obtain⟨b,off,c,u0,ua,ta,ul,uc,O,N,rfl,A,I,J,B,u⟩:=jX hr H 0 om;simp only[Nat.zero_mul,Nat.add_zero]at I J B;have y:=gm (d:=Ze) (show 0<ns.length by have:=n zS;omega);have j:=gm (d:=(zU:K (M+1))) (show 0<a.length by omega);obtain⟨f,fz⟩:=o 0 (by have:=n zS;omega);have e:gP 20 ns 1 a l=l++[(ns[0]'(by have:=n zS;omega),a[0]'om)]:=by rw[gP,if_pos zS,y,j]
   rw[e];exact Cv 20 zS _ _ _ _ _ _ _ _ v w p q _ L (by have:=n zS;omega) f b off a.length c A om u0 ua ta ul uc O N I J B (HB _ _ _ _ _ fz u)
  ·have s:((i:Int)==1)=false:=by simp;omega
   exact oW 20 zS _ _ _ _ _ _ _ _ _ v Q w i s (G _ (by rw[gP,if_neg om,if_neg om,if_neg om]) rfl)
 by_cases ah:op=42
 ·subst ah;by_cases hi:i=1
  ·subst hi;obtain⟨p,q,cap,z,L,o⟩:=ki h3 F (by have:=n zS;omega);cases z
   obtain⟨b,off,c,u0,ua,ta,ul,uc,O,N,rfl,A,I,J,B,u⟩:=jX hr H 0 om;simp only[Nat.zero_mul,Nat.add_zero]at I J B;have y:=gm (d:=Ze) (show 0<ns.length by have:=n zS;omega);have j:=gm (d:=(zU:K (M+1))) (show 0<a.length by omega);obtain⟨f,fz⟩:=o 0 (by have:=n zS;omega);have e:gP 42 ns 1 a l=l++[(ns[0]'(by have:=n zS;omega),a[0]'om)]:=by rw[gP,if_pos zS,y,j]
   rw[e];exact Cv 42 zS _ _ _ _ _ _ _ _ v w p q _ L (by have:=n zS;omega) f b off a.length c A om u0 ua ta ul uc O N I J B (HB _ _ _ _ _ fz u)
  ·have s:((i:Int)==1)=false:=by simp;omega
   exact oW 42 zS _ _ _ _ _ _ _ _ _ v Q w i s (G _ (by rw[gP,if_neg om,if_neg om,if_neg om]) rfl)
 by_cases ad:op=32
 ·subst ad;by_cases hi:i=1
  ·subst hi;obtain⟨p,q,cap,z,L,o⟩:=ki h3 F (by have:=n zS;omega);cases z
   obtain⟨b,off,c,u0,ua,ta,ul,uc,O,N,rfl,A,I,J,B,u⟩:=jX hr H 0 om;simp only[Nat.zero_mul,Nat.add_zero]at I J B;have y:=gm (d:=Ze) (show 0<ns.length by have:=n zS;omega);have j:=gm (d:=(zU:K (M+1))) (show 0<a.length by omega);obtain⟨f,fz⟩:=o 0 (by have:=n zS;omega);have oj:=(P.resolve_left zC).resolve_left zC _ (Zg (show 0<a.length by omega));obtain⟨Y,r,v0,va,wa,vl,vc,wl,wc,rfl,E,C,f0,f1,f2,D,Z⟩:=k6 u F (.inl (by rw[<- j];exact o3 rfl rfl)) oj;have e:gP 32 ns 1 a l=l++[(ns[0]'(by have:=n zS;omega),mQ (a[0]'om))]:=by rw[gP,if_neg om,if_pos zS,y,j]
   rw[e];exact sy 32 zS _ _ _ _ _ _ _ _ v w p q _ L (by have:=n zS;omega) f b off a.length c A om v0 va wa vl vc wl wc Y r O N C E B f0 f1 f2 (HB _ _ _ _ _ fz D)
  ·have s:((i:Int)==1)=false:=by simp;omega
   exact oW 32 zS _ _ _ _ _ _ _ _ _ v Q w i s (G _ (by rw[gP,if_neg om,if_neg om,if_neg om]) rfl)
 by_cases ae:op=33
 ·subst ae;by_cases hi:i=1
  ·subst hi;obtain⟨p,q,cap,z,L,o⟩:=ki h3 F (by have:=n zS;omega);cases z
   obtain⟨b,off,c,u0,ua,ta,ul,uc,O,N,rfl,A,I,J,B,u⟩:=jX hr H 0 om;simp only[Nat.zero_mul,Nat.add_zero]at I J B;have y:=gm (d:=Ze) (show 0<ns.length by have:=n zS;omega);have j:=gm (d:=(zU:K (M+1))) (show 0<a.length by omega);obtain⟨f,fz⟩:=o 0 (by have:=n zS;omega);have oj:=(P.resolve_left zC).resolve_left zC _ (Zg (show 0<a.length by omega));obtain⟨Y,r,v0,va,wa,vl,vc,wl,wc,rfl,E,C,f0,f1,f2,D,Z⟩:=k6 u F (.inr (by rw[<- j];exact o4 zS rfl)) oj;have e:gP 33 ns 1 a l=l++[(ns[0]'(by have:=n zS;omega),mQ (a[0]'om))]:=by rw[gP,if_neg om,if_pos zS,y,j]
   rw[e];exact sy 33 zS _ _ _ _ _ _ _ _ v w p q _ L (by have:=n zS;omega) f b off a.length c A om v0 va wa vl vc wl wc Y r O N C E B f0 f1 f2 (HB _ _ _ _ _ fz D)
  ·have s:((i:Int)==1)=false:=by simp;omega
   exact oW 33 zS _ _ _ _ _ _ _ _ _ v Q w i s (G _ (by rw[gP,if_neg om,if_neg om,if_neg om]) rfl)
 by_cases af:op=34
 ·subst af;by_cases hi:i=1
  ·subst hi;obtain⟨p,q,cap,z,L,o⟩:=ki h3 F (by have:=n zS;omega);cases z
   obtain⟨b,off,c,u0,ua,ta,ul,uc,O,N,rfl,A,I,J,B,u⟩:=jX hr H 0 om;simp only[Nat.zero_mul,Nat.add_zero]at I J B;have y:=gm (d:=Ze) (show 0<ns.length by have:=n zS;omega);have j:=gm (d:=(zU:K (M+1))) (show 0<a.length by omega);obtain⟨f,fz⟩:=o 0 (by have:=n zS;omega);have oj:=(P.resolve_left zC).resolve_left zC _ (Zg (show 0<a.length by omega));obtain⟨Y,r,v0,va,wa,vl,vc,wl,wc,rfl,E,C,f0,f1,f2,D,Z⟩:=k6 u F (.inr (by rw[<- j];exact o4 zS rfl)) oj;have e:gP 34 ns 1 a l=l++[(ns[0]'(by have:=n zS;omega),mQ (a[0]'om))]:=by rw[gP,if_neg om,if_pos zS,y,j]
   rw[e];exact sy 34 zS _ _ _ _ _ _ _ _ v w p q _ L (by have:=n zS;omega) f b off a.length c A om v0 va wa vl vc wl wc Y r O N C E B f0 f1 f2 (HB _ _ _ _ _ fz D)
  ·have s:((i:Int)==1)=false:=by simp;omega
   exact oW 34 zS _ _ _ _ _ _ _ _ _ v Q w i s (G _ (by rw[gP,if_neg om,if_neg om,if_neg om]) rfl)
 by_cases ai:op=43
 ·subst ai;by_cases hi:i=1
  ·subst hi;obtain⟨p,q,cap,z,L,o⟩:=ki h3 F (by have:=n zS;omega);cases z
   obtain⟨b,off,c,u0,ua,ta,ul,uc,O,N,rfl,A,I,J,B,u⟩:=jX hr H 0 om;simp only[Nat.zero_mul,Nat.add_zero]at I J B;have y:=gm (d:=Ze) (show 0<ns.length by have:=n zS;omega);have j:=gm (d:=(zU:K (M+1))) (show 0<a.length by omega);obtain⟨f,fz⟩:=o 0 (by have:=n zS;omega);have oj:=(P.resolve_left zC).resolve_left zC _ (Zg (show 0<a.length by omega));obtain⟨Y,r,v0,va,wa,vl,vc,wl,wc,rfl,E,C,f0,f1,f2,D,Z⟩:=k6 u F (.inr (by rw[<- j];exact o4 zS rfl)) oj;have e:gP 43 ns 1 a l=l++[(ns[0]'(by have:=n zS;omega),mQ (a[0]'om))]:=by rw[gP,if_neg om,if_pos zS,y,j]
   rw[e];exact sy 43 zS _ _ _ _ _ _ _ _ v w p q _ L (by have:=n zS;omega) f b off a.length c A om v0 va wa vl vc wl wc Y r O N C E B f0 f1 f2 (HB _ _ _ _ _ fz D)
  ·have s:((i:Int)==1)=false:=by simp;omega
   exact oW 43 zS _ _ _ _ _ _ _ _ _ v Q w i s (G _ (by rw[gP,if_neg om,if_neg om,if_neg om]) rfl)
 by_cases ag:op=35
 ·subst ag;by_cases hi:i=2
  ·subst hi;obtain⟨p,q,cap,z,L,o⟩:=ki h3 F (by have:=W rfl;omega);cases z
   obtain⟨b,off,c,u0,ua,ta,ul,uc,O,N,rfl,A,I,J,B,u⟩:=jX hr H 0 om;simp only[Nat.zero_mul,Nat.add_zero]at I J B;have y:=gm (d:=Ze) (show 0<ns.length by have:=W rfl;omega);have j:=gm (d:=(zU:K (M+1))) (show 0<a.length by omega);obtain⟨f,fz⟩:=o 0 (by have:=W rfl;omega);obtain⟨g,gz⟩:=o 1 (by have:=W rfl;omega);have ar:=gm (d:=Ze) (show 1<ns.length by have:=W rfl;omega);have aq:=gm (d:=(zU:K (M+1))) (show 1<a.length by omega);have oj:=(P.resolve_left zC).resolve_left zC _ (Zg (show 0<a.length by omega));obtain⟨Y,r,v0,va,wa,vl,vc,wl,wc,rfl,E,C,f0,f1,f2,D,Z⟩:=k6 u F (.inr (by rw[<- j];exact o5 rfl rfl)) oj;obtain⟨b',ay,av,a0,aa,da,al,ac,dl,dc,ao,az,q0,q1,q2,ap⟩:=jX hr H 1 om;cases ao
   simp only[Nat.one_mul]at q0 q1 q2;have e:gP 35 ns 2 a l=(l++[(ns[0]'(by have:=W rfl;omega),a[1]'om)])++[(ns[1]'(by have:=W rfl;omega),mQ (a[0]'om))]:=by rw[gP,if_neg om,if_neg om,if_pos zS,y,j,ar,aq]
   rw[e];refine Iw _ _ _ _ _ _ _ _ v w p q _ L (by have:=W rfl;omega) (by have:=W rfl;omega) f b off a.length c A om om v0 va wa vl vc wl wc _ g a0 aa da al ac dl dc q0 q1 q2 Y r O N C E B f0 f1 f2 (fun v X=>jt S (M+1) (l++[(ns[0]'(by have:=W rfl;omega),a[1]'om)]) w (Zr v) X) ⟨HB _ _ _ _ _ fz ap,fun v1 V R hP=>?_⟩;obtain⟨aA,aI,au,ak⟩:=hP;cases au
   have am:∀b,Ov S w.heap.size Zn V b->b<V.heap.size:=Ov.lt F R.size;refine (ru (M+1) (Ov S w.heap.size Zn V) _ v1 _ (mQ (a[0]'om)) _ _ _ V ak (D.keep (a6 R F) fun _ h=>.inl h) am zE gz).mono ?_;rintro e X ⟨A,v',rfl,aj⟩;refine⟨v',rfl,A,R.trans (A.mono R.size),v',rfl,aj.keep (fun _ _=>rfl) fun x U=>?_⟩;have aF:=R.size;have ax:=A.size;rcases U with (U|U)|U;·exact .inl U
   ·exact .inr ⟨U.1,om,U.2.2⟩
   ·exact .inr ⟨om,U.2⟩
  ·have s:((i:Int)==2)=false:=by simp;omega
   exact BA _ _ _ _ _ _ _ _ _ v Q w i s (G _ (by rw[gP,if_neg om,if_neg om,if_neg om]) rfl)
 exact En _ _ _ _ _ _ _ _ _ v Q w op i (by simpa using ab) (by simpa using ah) (by simpa using ad) (by simpa using ae) (by simpa using af) (by simpa using ai) (by simpa using ag) (G _ (by rw[gP,if_neg om,if_neg om,if_neg om]) rfl)
end Go.Proofs.YtcfojmaccikgeaaGreatDoor
