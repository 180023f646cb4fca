import Derived.Test.YtcfojmaccikgeaaGreatDoorB32
import Derived.Test.YtcfojmaccikgeaaGreatDoorB31
import Derived.Test.YtcfojmaccikgeaaGreatDoorB2
import Derived.Test.YtcfojmaccikgeaaGreatDoorB22
import Derived.Deep.RegionHeld
import Derived.Test.YtcfojmaccikgeaaGreatDoorB8
import Derived.Test.YtcfojmaccikgeaaGreatDoorB27
import Derived.BigQuiet
import Derived.Test.YtcfojmaccikgeaaGreatDoorB33
import Derived.Test.YtcfojmaccikgeaaGreatDoorB29
import Derived.Test.YtcfojmaccikgeaaGreatDoorB30
open Go.Value renaming slice→Zs,int→Zi,string→Zt,pointer→Zp,agg→Za,tuple→Zu
open Go.IntKind renaming i64→Zk
open Go.Ending renaming returned→Zr
open Go.Obj renaming cells→Zc
open Option renaming none→Zn,some→Zo
open Go renaming World→Zw,Value→Zv
open Nat renaming le_refl→Zl,lt_of_lt_of_le→Zd
open Go.RowKit.Below renaming heap_alloc→Zh
open List renaming getElem_mem→Zg,forall_mem_cons→Zm
open ByteArray renaming empty→Ze
namespace Go.Proofs.YtcfojmaccikgeaaGreatDoor
open Go.RowKit Go.Proofs.Tryz
set_option maxRecDepth 100000
set_option maxHeartbeats 16000000
variable {M m n:Nat} {S:Nat->Prop} {w V w' W:Zw} {c0 c1 c2:Zv}
def gQ{M:Nat}(op:Int)(names:List ByteArray)(i:Nat)(a:List (K (M+1)))(l:List (ByteArray×K (M+1))):List (ByteArray×K (M+1)):=
 if (op=20∨op=42)/\i=1 then l++[(names.getD 0 Ze,a.getD 0 zU)]
 else if (op=32∨op=33∨op=34∨op=43)/\i=1 then l++[(names.getD 0 Ze,mP (a.getD 0 zU))]
 else if op=35/\i=2 then (l++[(names.getD 0 Ze,a.getD 1 zU)])++[(names.getD 1 Ze,mP (a.getD 0 zU))]
 else l
theorem vs(op:Int)(names:List ByteArray)(i:Nat)(a:List (K (M+1)))(l:List (ByteArray×K (M+1))):jV op names i a l.reverse=(gQ op names i a l).reverse:=by
 unfold jV gQ;split;·simp
 ·split;·simp
  ·split<;>simp
theorem vr(op:Int)(names:List ByteArray)(i:Nat)(a:List (K (M+1)))(l:List (ByteArray×K (M+1))):(gQ op names i a l).length<=l.length+2:=by
 unfold gQ;split;·simp
 ·split;·simp
  ·split<;>simp
theorem ju.wide{l:List (ByteArray×K m)}{e:Ending}(h:ju S m l V e w')(c:Bw w V):ju S m l w e w':=by
 obtain⟨a,v,f,d⟩:=h;have g:=c.size;refine⟨c.trans (a.mono c.size),v,f,d.keep (fun _ _=>rfl) fun b a=>?_⟩;rcases a with a|a;·exact .inl a
 ·exact .inr ⟨om,a.2⟩
theorem ju.none{l:List (ByteArray×K m)}{v:Zv}(h:jf S w m l v)(b:Bd S w)(a:Bw w w'):ju S m l w (Zr v) w':=
 ⟨a,v,rfl,h.keep (a6 a b) fun _ a=>.inl a⟩
theorem oW (op:Int) (a:op=20∨op=42∨op=32∨op=33∨op=34∨op=43) (P:Ending->Zw->Prop) (f:Int) (g:ByteArray) (na ka:Option Addr) (d c kl kc:Nat) (v j:Zv) (w:Zw) (i:Nat) (hi:((i:Int)==1)=false) (b:∀ e,Bw w e->P (Zr v) e) :
  Calls prog 74 #[v,Za #[Zi Zk op,Zi Zk f,Zt g,Zs na d c,Zs ka kl kc],Zi Zk (i:Int),j] w P:=by
 have h:=Lib.hid (b _ ((Below.refl w.heap.size w).alloc (Zl _) (Zc #[Zi Zk op,Zi Zk f,Zt g,Zs na d c,Zs ka kl kc] 40)));clear b;rcases a with rfl|rfl|rfl|rfl|rfl|rfl;all_goals
  go_in
  go_wp2_with fail
  exact h.out
theorem Bv (P:Ending->Zw->Prop) (e:Int) (f:ByteArray) (na ka:Option Addr) (c b kl kc:Nat) (v h:Zv) (w:Zw) (i:Nat) (hi:((i:Int)==2)=false) (a:∀ d,Bw w d->P (Zr v) d) :
  Calls prog 74 #[v,Za #[Zi Zk 35,Zi Zk e,Zt f,Zs na c b,Zs ka kl kc],Zi Zk (i:Int),h] w P:=by have g:=Lib.hid (a _ ((Below.refl w.heap.size w).alloc (Zl _) (Zc #[Zi Zk 35,Zi Zk e,Zt f,Zs na c b,Zs ka kl kc] 40)));clear a;go_in;go_wp2_with fail;exact g.out
theorem Eh (P:Ending->Zw->Prop) (e:Int) (f:ByteArray) (na ka:Option Addr) (c b kl kc:Nat) (v h:Zv) (w:Zw) (op:Int) (i:Nat) (j:(op==20)=false) (o:(op==42)=false) (k:(op==32)=false) (l:(op==33)=false) (m:(op==34)=false) (p:(op==43)=false) (n:(op==35)=false) (a:∀ d,Bw w d->P (Zr v) d) :
  Calls prog 74 #[v,Za #[Zi Zk op,Zi Zk e,Zt f,Zs na c b,Zs ka kl kc],Zi Zk (i:Int),h] w P:=by have g:=Lib.hid (a _ ((Below.refl w.heap.size w).alloc (Zl _) (Zc #[Zi Zk op,Zi Zk e,Zt f,Zs na c b,Zs ka kl kc] 40)));clear a;go_in;go_wp2_with fail;exact g.out
theorem Cs (op:Int) (D:op=20∨op=42) (P:Ending->Zw->Prop) (F:Int) (G:ByteArray) (ka:Option Addr) (h r kl kc:Nat) (v:Zv) (w:Zw) (p q:Nat) (nm:ByteArray) (H:p<w.heap.size) (J:0<h) (g0:w.cell? ⟨p,q,Zn⟩=Zo (Zt nm)) (b off n cap:Nat) (g:b<w.heap.size) (L:0<n) (x:Int) (y s:Option Addr) (A z u t:Nat) (f0:w.cell? ⟨b,off,Zn⟩=Zo (Zi Zk x)) (f1:w.cell? ⟨b,off+1,Zn⟩=Zo (Zs y A z)) (f2:w.cell? ⟨b,off+2,Zn⟩=Zo (Zs s u t)) (B:∀ V,Bw w V->Calls prog 100 #[v,Zt nm,Za #[Zi Zk x,Zs y A z,Zs s u t]] V fun e c=>∃ v,e=Zr v/\Bw V c/\P (Zr v) c) :
  Calls prog 74 #[v,Za #[Zi Zk op,Zi Zk F,Zt G,Zs (Zo ⟨p,q,Zn⟩) h r,Zs ka kl kc],Zi Zk 1,Zs (Zo ⟨b,off,Zn⟩) n cap] w P:=by
 obtain⟨W,l⟩:=il (w.alloc (Zc #[Zi Zk op,Zi Zk F,Zt G,Zs (Zo ⟨p,q,Zn⟩) h r,Zs ka kl kc] 40));have a:Bw w W:=by rw[l];exact gA _ _
 have d:=heap_alloc_last w (Zc #[Zi Zk op,Zi Zk F,Zt G,Zs (Zo ⟨p,q,Zn⟩) h r,Zs ka kl kc] 40);have E:w.heap.size<W.heap.size:=by rw[l];simp
 rw[<- l]at d;obtain⟨z0,N,z2,z3,z4⟩:=fZ d;have g0:=kC a g0 H;have f0:=kC a f0 g;have f1:=kC a f1 g;have f2:=kC a f2 g;have C:Hid (∀V,Bw W V->(fun (c:Zw)=>c.cell? ⟨w.heap.size,3,Zn⟩=Zo (Zs (Zo ⟨p,q,Zn⟩) h r)/\c.cell? ⟨p,q,Zn⟩=Zo (Zt nm)/\c.cell? ⟨b,off,Zn⟩=Zo (Zi Zk x)/\c.cell? ⟨b,off+1,Zn⟩=Zo (Zs y A z)/\c.cell? ⟨b,off+2,Zn⟩=Zo (Zs s u t)) V):=fun V k=>⟨kC k z3 E,kC k g0 (Zd H a.size),kC k f0 (Zd g a.size),kC k f1 (Zd g a.size),kC k f2 (Zd g a.size)⟩;have i:=a7 a;have f:Bw W W.drew:=(Below.refl _ _).drew;have B:=Lib.hid B;clear a d;rcases D with rfl|rfl;all_goals
  go_in
  go_wp2_with fail
  rw[<- l]
  clear l
  refine wp_region_held_drew (S:=(fun c=>c.cell? ⟨w.heap.size,3,Zn⟩=Zo (Zs (Zo ⟨p,q,Zn⟩) h r)/\c.cell? ⟨p,q,Zn⟩=Zo (Zt nm)/\c.cell? ⟨b,off,Zn⟩=Zo (Zi Zk x)/\c.cell? ⟨b,off+1,Zn⟩=Zo (Zs y A z)/\c.cell? ⟨b,off+2,Zn⟩=Zo (Zs s u t))) zK (by exact⟨z3,g0,f0,f1,f2⟩) (fun hHeld=>?_)
  refine tk 0 ?_
  refine tk 1 ?_
  refine tk 2 ?_
  refine tk 3 ?_
  refine tk 4 ?_
  refine tk 5 ?_
  refine tk 6 ?_
  refine tk 7 ?_
  refine js 8 fun K hK=>?_
  go_simp
  go_at_call 100
  refine (B.out W.drew (i.out.trans (f.mono i.out.size))).mono ?_
  rintro e w1 ⟨M,rfl,m,j⟩
  have o:Bw W w1:=f.trans (m.mono f.size)
  refine hK.out _ _ (C.out _ o) (fun hHeld=>?_)
  clear hK K
  have I:=Lib.hid j
  clear j m o
  refine tk 9 ?_
  refine wpAnyH_done zK ?_ _
  go_simp
  go_wp2_with fail
  exact I.out
theorem sy (op:Int) (I:op=32∨op=33∨op=34∨op=43) (P:Ending->Zw->Prop) (L:Int) (M:ByteArray) (ka:Option Addr) (m x kl kc:Nat) (v:Zv) (w:Zw) (p q:Nat) (nm:ByteArray) (O:p<w.heap.size) (T:0<m) (g0:w.cell? ⟨p,q,Zn⟩=Zo (Zt nm)) (b off n cap:Nat) (N:b<w.heap.size) (U:0<n) (C:Int) (D z:Option Addr) (F E B A:Nat) (g a y i:Nat) (h:g<w.heap.size) (R:0<y) (f:w.cell? ⟨b,off+2,Zn⟩=Zo (Zs (Zo ⟨g,a,Zn⟩) y i)) (f0:w.cell? ⟨g,a,Zn⟩=Zo (Zi Zk C)) (f1:w.cell? ⟨g,a+1,Zn⟩=Zo (Zs D F E)) (f2:w.cell? ⟨g,a+2,Zn⟩=Zo (Zs z B A)) (G:∀ V,Bw w V->Calls prog 100 #[v,Zt nm,Za #[Zi Zk C,Zs D F E,Zs z B A]] V fun e d=>∃ v,e=Zr v/\Bw V d/\P (Zr v) d) :
  Calls prog 74 #[v,Za #[Zi Zk op,Zi Zk L,Zt M,Zs (Zo ⟨p,q,Zn⟩) m x,Zs ka kl kc],Zi Zk 1,Zs (Zo ⟨b,off,Zn⟩) n cap] w P:=by
 obtain⟨W,s⟩:=il (w.alloc (Zc #[Zi Zk op,Zi Zk L,Zt M,Zs (Zo ⟨p,q,Zn⟩) m x,Zs ka kl kc] 40));have c:Bw w W:=by rw[s];exact gA _ _
 have j:=heap_alloc_last w (Zc #[Zi Zk op,Zi Zk L,Zt M,Zs (Zo ⟨p,q,Zn⟩) m x,Zs ka kl kc] 40);have J:w.heap.size<W.heap.size:=by rw[s];simp
 rw[<- s]at j;obtain⟨z0,Y,z2,z3,z4⟩:=fZ j;have g0:=kC c g0 O;have f:=kC c f N;have f0:=kC c f0 h;have f1:=kC c f1 h;have f2:=kC c f2 h;have H:Hid (∀V,Bw W V->(fun (d:Zw)=>d.cell? ⟨w.heap.size,3,Zn⟩=Zo (Zs (Zo ⟨p,q,Zn⟩) m x)/\d.cell? ⟨p,q,Zn⟩=Zo (Zt nm)/\d.cell? ⟨b,off+2,Zn⟩=Zo (Zs (Zo ⟨g,a,Zn⟩) y i)/\d.cell? ⟨g,a,Zn⟩=Zo (Zi Zk C)/\d.cell? ⟨g,a+1,Zn⟩=Zo (Zs D F E)/\d.cell? ⟨g,a+2,Zn⟩=Zo (Zs z B A)) V):=fun V l=>⟨kC l z3 J,kC l g0 (Zd O c.size),kC l f (Zd N c.size),kC l f0 (Zd h c.size),kC l f1 (Zd h c.size),kC l f2 (Zd h c.size)⟩;have o:=a7 c;have k:Bw W W.drew:=(Below.refl _ _).drew;have G:=Lib.hid G;clear c j;rcases I with rfl|rfl|rfl|rfl;all_goals
  go_in
  go_wp2_with fail
  rw[<- s]
  clear s
  refine wp_region_held_drew (S:=(fun d=>d.cell? ⟨w.heap.size,3,Zn⟩=Zo (Zs (Zo ⟨p,q,Zn⟩) m x)/\d.cell? ⟨p,q,Zn⟩=Zo (Zt nm)/\d.cell? ⟨b,off+2,Zn⟩=Zo (Zs (Zo ⟨g,a,Zn⟩) y i)/\d.cell? ⟨g,a,Zn⟩=Zo (Zi Zk C)/\d.cell? ⟨g,a+1,Zn⟩=Zo (Zs D F E)/\d.cell? ⟨g,a+2,Zn⟩=Zo (Zs z B A))) zK (by exact⟨z3,g0,f,f0,f1,f2⟩) (fun hHeld=>?_)
  refine tk 0 ?_
  refine tk 1 ?_
  refine tk 2 ?_
  refine tk 3 ?_
  refine tk 4 ?_
  refine tk 5 ?_
  refine tk 6 ?_
  refine tk 7 ?_
  refine tk 8 ?_
  refine tk 9 ?_
  refine tk 10 ?_
  refine js 11 fun K hK=>?_
  go_simp
  go_at_call 100
  refine (G.out W.drew (o.out.trans (k.mono o.out.size))).mono ?_
  rintro e w1 ⟨X,rfl,t,r⟩
  have u:Bw W w1:=k.trans (t.mono k.size)
  refine hK.out _ _ (H.out _ u) (fun hHeld=>?_)
  clear hK K
  have Q:=Lib.hid r
  clear r t u
  refine tk 12 ?_
  refine wpAnyH_done zK ?_ _
  go_simp
  go_wp2_with fail
  exact Q.out
theorem Ip (P:Ending->Zw->Prop) (x1:Int) (x2:ByteArray) (ka:Option Addr) (t D kl kc:Nat) (v:Zv) (w:Zw) (p q:Nat) (nm:ByteArray) (Q:p<w.heap.size) (ag:0<t) (ad:(1:Int)<(t:Int)) (g0:w.cell? ⟨p,q,Zn⟩=Zo (Zt nm)) (b off n cap:Nat) (r:b<w.heap.size) (hn:0<n) (ae:(1:Int)<(n:Int)) (Z:Int) (ua U:Option Addr) (ul uc Y X:Nat) (o:ByteArray) (g1:w.cell? ⟨p,q+1,Zn⟩=Zo (Zt o)) (a0:Int) (F I:Option Addr) (H G L J:Nat) (M:w.cell? ⟨b,off+3,Zn⟩=Zo (Zi Zk a0)) (N:w.cell? ⟨b,off+3+1,Zn⟩=Zo (Zs F H G)) (O:w.cell? ⟨b,off+3+2,Zn⟩=Zo (Zs I L J)) (g c T i:Nat) (h:g<w.heap.size) (af:0<T) (f:w.cell? ⟨b,off+2,Zn⟩=Zo (Zs (Zo ⟨g,c,Zn⟩) T i)) (f0:w.cell? ⟨g,c,Zn⟩=Zo (Zi Zk Z)) (f1:w.cell? ⟨g,c+1,Zn⟩=Zo (Zs ua ul uc)) (f2:w.cell? ⟨g,c+2,Zn⟩=Zo (Zs U Y X)) (R:Zv->Zw->Prop) (E:(∀ V,Bw w V->Calls prog 100 #[v,Zt nm,Za #[Zi Zk a0,Zs F H G,Zs I L J]] V fun e d=>∃ v,e=Zr v/\Bw V d/\R v d)/\∀ v V,Bw w V->R v V->Calls prog 100 #[v,Zt o,Za #[Zi Zk Z,Zs ua ul uc,Zs U Y X]] V fun e d=>∃ v,e=Zr v/\Bw V d/\P (Zr v) d) :
  Calls prog 74 #[v,Za #[Zi Zk 35,Zi Zk x1,Zt x2,Zs (Zo ⟨p,q,Zn⟩) t D,Zs ka kl kc],Zi Zk 2,Zs (Zo ⟨b,off,Zn⟩) n cap] w P:=by
 obtain⟨W,z⟩:=il (w.alloc (Zc #[Zi Zk 35,Zi Zk x1,Zt x2,Zs (Zo ⟨p,q,Zn⟩) t D,Zs ka kl kc] 40));have a:Bw w W:=by rw[z];exact gA _ _
 have j:=heap_alloc_last w (Zc #[Zi Zk 35,Zi Zk x1,Zt x2,Zs (Zo ⟨p,q,Zn⟩) t D,Zs ka kl kc] 40);have ab:w.heap.size<W.heap.size:=by rw[z];simp
 rw[<- z]at j;obtain⟨z0,z1,z2,z3,z4⟩:=fZ j;have g0:=kC a g0 Q;have g1:=kC a g1 Q;have M:=kC a M r;have N:=kC a N r;have O:=kC a O r;have f:=kC a f r;have f0:=kC a f0 h;have f1:=kC a f1 h;have f2:=kC a f2 h;have u:Hid (∀V,Bw W V->(fun (d:Zw)=>d.cell? ⟨w.heap.size,3,Zn⟩=Zo (Zs (Zo ⟨p,q,Zn⟩) t D)/\d.cell? ⟨p,q,Zn⟩=Zo (Zt nm)/\d.cell? ⟨p,q+1,Zn⟩=Zo (Zt o)/\d.cell? ⟨b,off+3,Zn⟩=Zo (Zi Zk a0)/\d.cell? ⟨b,off+3+1,Zn⟩=Zo (Zs F H G)/\d.cell? ⟨b,off+3+2,Zn⟩=Zo (Zs I L J)/\d.cell? ⟨b,off+2,Zn⟩=Zo (Zs (Zo ⟨g,c,Zn⟩) T i)/\d.cell? ⟨g,c,Zn⟩=Zo (Zi Zk Z)/\d.cell? ⟨g,c+1,Zn⟩=Zo (Zs ua ul uc)/\d.cell? ⟨g,c+2,Zn⟩=Zo (Zs U Y X)) V):=fun V l=>⟨kC l z3 ab,kC l g0 (Zd Q a.size),kC l g1 (Zd Q a.size),kC l M (Zd r a.size),kC l N (Zd r a.size),kC l O (Zd r a.size),kC l f (Zd r a.size),kC l f0 (Zd h a.size),kC l f1 (Zd h a.size),kC l f2 (Zd h a.size)⟩;have m:=a7 a;have s:Bw W W.drew:=(Below.refl _ _).drew;have E:=Lib.hid E;clear a j;go_in;go_wp2_with fail;rw[<- z];clear z;refine wp_region_held_drew (S:=(fun d=>d.cell? ⟨w.heap.size,3,Zn⟩=Zo (Zs (Zo ⟨p,q,Zn⟩) t D)/\d.cell? ⟨p,q,Zn⟩=Zo (Zt nm)/\d.cell? ⟨p,q+1,Zn⟩=Zo (Zt o)/\d.cell? ⟨b,off+3,Zn⟩=Zo (Zi Zk a0)/\d.cell? ⟨b,off+3+1,Zn⟩=Zo (Zs F H G)/\d.cell? ⟨b,off+3+2,Zn⟩=Zo (Zs I L J)/\d.cell? ⟨b,off+2,Zn⟩=Zo (Zs (Zo ⟨g,c,Zn⟩) T i)/\d.cell? ⟨g,c,Zn⟩=Zo (Zi Zk Z)/\d.cell? ⟨g,c+1,Zn⟩=Zo (Zs ua ul uc)/\d.cell? ⟨g,c+2,Zn⟩=Zo (Zs U Y X))) zK (by exact⟨z3,g0,g1,M,N,O,f,f0,f1,f2⟩) (fun hHeld=>?_);refine tk 0 ?_;refine tk 1 ?_;refine tk 2 ?_;refine tk 3 ?_;refine tk 4 ?_;refine tk 5 ?_;refine tk 6 ?_;refine tk 7 ?_;refine tk 9 ?_;refine tk 10 ?_;refine tk 11 ?_;refine tk 12 ?_;refine tk 13 ?_;refine tk 14 ?_;refine tk 15 ?_;refine tk 16 ?_;refine tk 17 ?_;refine tk 18 ?_;refine js 8 fun K hK=>?_;go_simp;go_at_call 100;refine (E.out.1 W.drew (m.out.trans (s.mono m.out.size))).mono ?_;rintro e w1 ⟨v1,rfl,A,x⟩;have k:Bw W w1:=s.trans (A.mono s.size);refine hK.out _ _ (u.out _ k) (fun hHeld=>?_);clear hK K;refine js 19 fun K hK=>?_;go_simp;go_at_call 100;refine (E.out.2 _ _ (m.out.trans (k.mono m.out.size)) x).mono ?_;rintro e w2 ⟨v2,rfl,B,y⟩;have C:Bw W w2:=k.trans (B.mono k.size);refine hK.out _ _ (u.out _ C) (fun hHeld=>?_);clear hK K;have HP:=Lib.hid y;clear x A k y B C;refine tk 20 ?_;refine wpAnyH_done zK ?_ _;go_simp;go_wp2_with fail;exact HP.out
theorem rA (M m:Nat) (S S1:Nat->Prop) (t:T (m+1)) (l:List (ByteArray × K (M+1))) (a:List (K (M+1))) (i:Nat) (c0 c1 c2 c3 c4 v Q:Zv) (w:Zw) (ht:fT S w (m+1) t c0 c1 c2 c3 c4) (hv:jf S w (M+1) l v) (hr:gP S1 w (a8 S w (M+1)) a Q) (F:Bd S w) (H:Bd S1 w) (hl:l.length<=2000000) (aw:a.length=i) (P:Nd.sort t=40∨Nd.sort t=41∨∀ x,x∈a->gG (M+1) x=true) (an:qt (Nd.sort t) (Nd.names t) i a) :
  Calls prog 74 #[v,Za #[c0,c1,c2,c3,c4],Zi Zk (i:Int),Q] w (ju S (M+1) (gQ (Nd.sort t) (Nd.names t) i a l) w):=by
 obtain⟨rfl,rfl,rfl,hs,aG,aH,h3,h4,⟨na,nl,nc,rfl,aB⟩,⟨ka,kl,kc,rfl,aC⟩⟩:=ht;obtain⟨n,W,o3,o4,o5⟩:=an;have G:∀l',gQ (Nd.sort t) (Nd.names t) i a l=l'->l'=l->∀X,Bw w X->ju S (M+1) (gQ (Nd.sort t) (Nd.names t) i a l) w (Zr v) X:=fun l' h1 h2 X A=>by rw[h1,h2];exact ju.none hv F A
 have HB:∀(x:ByteArray)(k:K (M+1))(d0 d1 d2:Zv),x.size<=maxLen->a8 S w (M+1) k d0 d1 d2->∀V,Bw w V->Calls prog 100 #[v,Zt x,Za #[d0,d1,d2]] V fun e X=>∃v,e=Zr v/\Bw V X/\ju S (M+1) (l++[(x,k)]) w (Zr v) X:=by intro x k d0 d1 d2 U hk V R;refine (rx (M+1) S l v x k d0 d1 d2 V (hv.keep (a6 R F) fun _ h=>h) (hk.keep (a6 R F) fun _ h=>h) (fun b A=>Zd (F b A) R.size) om U).mono ?_;rintro e X h;obtain⟨A,v',rfl,-⟩:=id h;exact⟨v',rfl,A,h.wide R⟩
 generalize aE:Nd.sort t=op at *;generalize aD:Nd.names t=ns at *;by_cases ab:op=20
 ·subst ab;by_cases hi:i=1
  ·subst hi;obtain⟨p,q,cap,z,L,o⟩:=kj h3 F (by have:=n zS;omega);cases z
   obtain⟨b,off,c,u0,ua,ta,ul,uc,O,N,rfl,A,I,J,B,u⟩:=jY hr H 0 om;simp only[Nat.zero_mul,Nat.add_zero]at I J B;have y:=gn (d:=Ze) (show 0<ns.length by have:=n zS;omega);have j:=gn (d:=(zU:K (M+1))) (show 0<a.length by omega);obtain⟨f,fz⟩:=o 0 (by have:=n zS;omega);have e:gQ 20 ns 1 a l=l++[(ns[0]'(by have:=n zS;omega),a[0]'om)]:=by rw[gQ,if_pos zS,y,j]
   rw[e];exact Cs 20 zS _ _ _ _ _ _ _ _ v w p q _ L (by have:=n zS;omega) f b off a.length c A om u0 ua ta ul uc O N I J B (HB _ _ _ _ _ fz u)
  ·have s:((i:Int)==1)=false:=by simp;omega
   exact oW 20 zS _ _ _ _ _ _ _ _ _ v Q w i s (G _ (by rw[gQ,if_neg om,if_neg om,if_neg om]) rfl)
 by_cases ah:op=42
 ·subst ah;by_cases hi:i=1
  ·subst hi;obtain⟨p,q,cap,z,L,o⟩:=kj h3 F (by have:=n zS;omega);cases z
   obtain⟨b,off,c,u0,ua,ta,ul,uc,O,N,rfl,A,I,J,B,u⟩:=jY hr H 0 om;simp only[Nat.zero_mul,Nat.add_zero]at I J B;have y:=gn (d:=Ze) (show 0<ns.length by have:=n zS;omega);have j:=gn (d:=(zU:K (M+1))) (show 0<a.length by omega);obtain⟨f,fz⟩:=o 0 (by have:=n zS;omega);have e:gQ 42 ns 1 a l=l++[(ns[0]'(by have:=n zS;omega),a[0]'om)]:=by rw[gQ,if_pos zS,y,j]
   rw[e];exact Cs 42 zS _ _ _ _ _ _ _ _ v w p q _ L (by have:=n zS;omega) f b off a.length c A om u0 ua ta ul uc O N I J B (HB _ _ _ _ _ fz u)
  ·have s:((i:Int)==1)=false:=by simp;omega
   exact oW 42 zS _ _ _ _ _ _ _ _ _ v Q w i s (G _ (by rw[gQ,if_neg om,if_neg om,if_neg om]) rfl)
 by_cases ad:op=32
 ·subst ad;by_cases hi:i=1
  ·subst hi;obtain⟨p,q,cap,z,L,o⟩:=kj h3 F (by have:=n zS;omega);cases z
   obtain⟨b,off,c,u0,ua,ta,ul,uc,O,N,rfl,A,I,J,B,u⟩:=jY hr H 0 om;simp only[Nat.zero_mul,Nat.add_zero]at I J B;have y:=gn (d:=Ze) (show 0<ns.length by have:=n zS;omega);have j:=gn (d:=(zU:K (M+1))) (show 0<a.length by omega);obtain⟨f,fz⟩:=o 0 (by have:=n zS;omega);have oj:=(P.resolve_left zC).resolve_left zC _ (Zg (show 0<a.length by omega));obtain⟨Y,r,v0,va,wa,vl,vc,wl,wc,rfl,E,C,f0,f1,f2,D,Z⟩:=k8 u F (.inl (by rw[<- j];exact o3 rfl rfl)) oj;have e:gQ 32 ns 1 a l=l++[(ns[0]'(by have:=n zS;omega),mP (a[0]'om))]:=by rw[gQ,if_neg om,if_pos zS,y,j]
   rw[e];exact sy 32 zS _ _ _ _ _ _ _ _ v w p q _ L (by have:=n zS;omega) f b off a.length c A om v0 va wa vl vc wl wc Y r O N C E B f0 f1 f2 (HB _ _ _ _ _ fz D)
  ·have s:((i:Int)==1)=false:=by simp;omega
   exact oW 32 zS _ _ _ _ _ _ _ _ _ v Q w i s (G _ (by rw[gQ,if_neg om,if_neg om,if_neg om]) rfl)
 by_cases ae:op=33
 ·subst ae;by_cases hi:i=1
  ·subst hi;obtain⟨p,q,cap,z,L,o⟩:=kj h3 F (by have:=n zS;omega);cases z
   obtain⟨b,off,c,u0,ua,ta,ul,uc,O,N,rfl,A,I,J,B,u⟩:=jY hr H 0 om;simp only[Nat.zero_mul,Nat.add_zero]at I J B;have y:=gn (d:=Ze) (show 0<ns.length by have:=n zS;omega);have j:=gn (d:=(zU:K (M+1))) (show 0<a.length by omega);obtain⟨f,fz⟩:=o 0 (by have:=n zS;omega);have oj:=(P.resolve_left zC).resolve_left zC _ (Zg (show 0<a.length by omega));obtain⟨Y,r,v0,va,wa,vl,vc,wl,wc,rfl,E,C,f0,f1,f2,D,Z⟩:=k8 u F (.inr (by rw[<- j];exact o4 zS rfl)) oj;have e:gQ 33 ns 1 a l=l++[(ns[0]'(by have:=n zS;omega),mP (a[0]'om))]:=by rw[gQ,if_neg om,if_pos zS,y,j]
   rw[e];exact sy 33 zS _ _ _ _ _ _ _ _ v w p q _ L (by have:=n zS;omega) f b off a.length c A om v0 va wa vl vc wl wc Y r O N C E B f0 f1 f2 (HB _ _ _ _ _ fz D)
  ·have s:((i:Int)==1)=false:=by simp;omega
   exact oW 33 zS _ _ _ _ _ _ _ _ _ v Q w i s (G _ (by rw[gQ,if_neg om,if_neg om,if_neg om]) rfl)
 by_cases af:op=34
 ·subst af;by_cases hi:i=1
  ·subst hi;obtain⟨p,q,cap,z,L,o⟩:=kj h3 F (by have:=n zS;omega);cases z
   obtain⟨b,off,c,u0,ua,ta,ul,uc,O,N,rfl,A,I,J,B,u⟩:=jY hr H 0 om;simp only[Nat.zero_mul,Nat.add_zero]at I J B;have y:=gn (d:=Ze) (show 0<ns.length by have:=n zS;omega);have j:=gn (d:=(zU:K (M+1))) (show 0<a.length by omega);obtain⟨f,fz⟩:=o 0 (by have:=n zS;omega);have oj:=(P.resolve_left zC).resolve_left zC _ (Zg (show 0<a.length by omega));obtain⟨Y,r,v0,va,wa,vl,vc,wl,wc,rfl,E,C,f0,f1,f2,D,Z⟩:=k8 u F (.inr (by rw[<- j];exact o4 zS rfl)) oj;have e:gQ 34 ns 1 a l=l++[(ns[0]'(by have:=n zS;omega),mP (a[0]'om))]:=by rw[gQ,if_neg om,if_pos zS,y,j]
   rw[e];exact sy 34 zS _ _ _ _ _ _ _ _ v w p q _ L (by have:=n zS;omega) f b off a.length c A om v0 va wa vl vc wl wc Y r O N C E B f0 f1 f2 (HB _ _ _ _ _ fz D)
  ·have s:((i:Int)==1)=false:=by simp;omega
   exact oW 34 zS _ _ _ _ _ _ _ _ _ v Q w i s (G _ (by rw[gQ,if_neg om,if_neg om,if_neg om]) rfl)
 by_cases ai:op=43
 ·subst ai;by_cases hi:i=1
  ·subst hi;obtain⟨p,q,cap,z,L,o⟩:=kj h3 F (by have:=n zS;omega);cases z
   obtain⟨b,off,c,u0,ua,ta,ul,uc,O,N,rfl,A,I,J,B,u⟩:=jY hr H 0 om;simp only[Nat.zero_mul,Nat.add_zero]at I J B;have y:=gn (d:=Ze) (show 0<ns.length by have:=n zS;omega);have j:=gn (d:=(zU:K (M+1))) (show 0<a.length by omega);obtain⟨f,fz⟩:=o 0 (by have:=n zS;omega);have oj:=(P.resolve_left zC).resolve_left zC _ (Zg (show 0<a.length by omega));obtain⟨Y,r,v0,va,wa,vl,vc,wl,wc,rfl,E,C,f0,f1,f2,D,Z⟩:=k8 u F (.inr (by rw[<- j];exact o4 zS rfl)) oj;have e:gQ 43 ns 1 a l=l++[(ns[0]'(by have:=n zS;omega),mP (a[0]'om))]:=by rw[gQ,if_neg om,if_pos zS,y,j]
   rw[e];exact sy 43 zS _ _ _ _ _ _ _ _ v w p q _ L (by have:=n zS;omega) f b off a.length c A om v0 va wa vl vc wl wc Y r O N C E B f0 f1 f2 (HB _ _ _ _ _ fz D)
  ·have s:((i:Int)==1)=false:=by simp;omega
   exact oW 43 zS _ _ _ _ _ _ _ _ _ v Q w i s (G _ (by rw[gQ,if_neg om,if_neg om,if_neg om]) rfl)
 by_cases ag:op=35
 ·subst ag;by_cases hi:i=2
  ·subst hi;obtain⟨p,q,cap,z,L,o⟩:=kj h3 F (by have:=W rfl;omega);cases z
   obtain⟨b,off,c,u0,ua,ta,ul,uc,O,N,rfl,A,I,J,B,u⟩:=jY hr H 0 om;simp only[Nat.zero_mul,Nat.add_zero]at I J B;have y:=gn (d:=Ze) (show 0<ns.length by have:=W rfl;omega);have j:=gn (d:=(zU:K (M+1))) (show 0<a.length by omega);obtain⟨f,fz⟩:=o 0 (by have:=W rfl;omega);obtain⟨g,gz⟩:=o 1 (by have:=W rfl;omega);have ar:=gn (d:=Ze) (show 1<ns.length by have:=W rfl;omega);have aq:=gn (d:=(zU:K (M+1))) (show 1<a.length by omega);have oj:=(P.resolve_left zC).resolve_left zC _ (Zg (show 0<a.length by omega));obtain⟨Y,r,v0,va,wa,vl,vc,wl,wc,rfl,E,C,f0,f1,f2,D,Z⟩:=k8 u F (.inr (by rw[<- j];exact o5 rfl rfl)) oj;obtain⟨b',ay,av,a0,aa,da,al,ac,dl,dc,ao,az,q0,q1,q2,ap⟩:=jY hr H 1 om;cases ao
   simp only[Nat.one_mul]at q0 q1 q2;have e:gQ 35 ns 2 a l=(l++[(ns[0]'(by have:=W rfl;omega),a[1]'om)])++[(ns[1]'(by have:=W rfl;omega),mP (a[0]'om))]:=by rw[gQ,if_neg om,if_neg om,if_pos zS,y,j,ar,aq]
   rw[e];refine Ip _ _ _ _ _ _ _ _ v w p q _ L (by have:=W rfl;omega) (by have:=W rfl;omega) f b off a.length c A om om v0 va wa vl vc wl wc _ g a0 aa da al ac dl dc q0 q1 q2 Y r O N C E B f0 f1 f2 (fun v X=>ju S (M+1) (l++[(ns[0]'(by have:=W rfl;omega),a[1]'om)]) w (Zr v) X) ⟨HB _ _ _ _ _ fz ap,fun v1 V R hP=>?_⟩;obtain⟨aA,aI,au,ak⟩:=hP;cases au
   have am:∀b,Ov S w.heap.size Zn V b->b<V.heap.size:=Ov.lt F R.size;refine (rx (M+1) (Ov S w.heap.size Zn V) _ v1 _ (mP (a[0]'om)) _ _ _ V ak (D.keep (a6 R F) fun _ h=>.inl h) am zE gz).mono ?_;rintro e X ⟨A,v',rfl,aj⟩;refine⟨v',rfl,A,R.trans (A.mono R.size),v',rfl,aj.keep (fun _ _=>rfl) fun x U=>?_⟩;have aF:=R.size;have ax:=A.size;rcases U with (U|U)|U;·exact .inl U
   ·exact .inr ⟨U.1,om,U.2.2⟩
   ·exact .inr ⟨om,U.2⟩
  ·have s:((i:Int)==2)=false:=by simp;omega
   exact Bv _ _ _ _ _ _ _ _ _ v Q w i s (G _ (by rw[gQ,if_neg om,if_neg om,if_neg om]) rfl)
 exact Eh _ _ _ _ _ _ _ _ _ v Q w op i (by simpa using ab) (by simpa using ah) (by simpa using ad) (by simpa using ae) (by simpa using af) (by simpa using ai) (by simpa using ag) (G _ (by rw[gQ,if_neg om,if_neg om,if_neg om]) rfl)
def iw(S:Nat->Prop)(n:Nat)(k:K n)(a:Int)(w:Zw)(e:Ending)(w':Zw):Prop:=
 Bw w w' /\ ∃b c f d g i h,e=Zr (Zu #[Za #[Zi Zk b,Zs c f d,Zs g i h],Zi Zk a])/\(a=0->a8 (Ov S w.heap.size Zn w') w' n k (Zi Zk b) (Zs c f d) (Zs g i h))
theorem jv {k:K n} (d:Bd S w) (a:Bw w W) (c:a8 (Ov S (w.heap.size+2) Zn W) W n k c0 c1 c2) :
  iw S n k 0 w (Zr (Zu #[Za #[c0,c1,c2],Zi Zk 0])) (((W.setCell ⟨w.heap.size+1,0,Zn⟩ c0).setCell ⟨w.heap.size+1,1,Zn⟩ c1).setCell ⟨w.heap.size+1,2,Zn⟩ c2):=by
 obtain⟨e,f,h,g,i,l,j,rfl,rfl,rfl⟩:=c.shape;refine⟨iH a om,e,f,h,g,i,l,j,rfl,fun _=>c.keep (fun b a=>gT ?_) fun b a=>?_⟩
 ·rcases a with a|a;·have:=d b a;omega
  ·have:=a.1;omega
 ·rcases a with a|a;·exact .inl a
  ·exact .inr ⟨by have:=a.1;omega,by rw[oP];exact a.2.1,a.2.2⟩
theorem sW{k:K n}{a:Int}(b:Bw w W)(c:a≠0):iw S n k a w (Zr (Zu #[Za #[Zi Zk 0,Zs Zn 0 0,Zs Zn 0 0],Zi Zk a])) W:=
 ⟨b,_,_,_,_,_,_,_,rfl,fun h=>absurd h c⟩
theorem sX{k:K n}(e:Bd S w)(b:a8 S w n k c0 c1 c2)(c d:Obj):iw S n k 0 w (Zr (Zu #[Za #[c0,c1,c2],Zi Zk 0])) ((w.alloc c).alloc d):=by have a:Bw w ((w.alloc c).alloc d):=(gA _ _).alloc zS _;obtain⟨f,g,j,i,l,o,m,rfl,rfl,rfl⟩:=b.shape;exact⟨a,f,g,j,i,l,o,m,rfl,fun _=>b.keep (a6 a e) fun _ h=>.inl h⟩
theorem oT{k:K n}(d:w.heap.size+2<=V.heap.size)(c:a8 (Ov S V.heap.size Zn W) W n k c0 c1 c2):a8 (Ov S (w.heap.size+2) Zn W) W n k c0 c1 c2:=
 c.keep (fun _ _=>rfl) fun b a=>by
  rcases a with a|a
  ·exact .inl a
  ·exact .inr ⟨om,a.2⟩
theorem iu (op s:Int) (f:(op=1/\s=1)∨(op=2/\s=2)∨(op=3/\s=3)∨(op=9/\s=1)∨(op=10/\s=1)∨(op=11/\s=1)∨(op=12/\s=1)∨(op=13/\s=1)∨(op=26/\s=1)∨(op=14/\s=3)∨(op=15/\s=3)∨(op=16/\s=3)∨(op=17/\s=3)∨(op=18/\s=3)∨(op=29/\s=2)) (M:Nat) (S:Nat->Prop) (l:Int) (m:ByteArray) (na ka:Option Addr) (k j kl kc:Nat) (v:Zv) (r:Zv) (w:Zw) (o:Bd S w) :
  Calls prog 77 #[v,Za #[Zi Zk op,Zi Zk l,Zt m,Zs na k j,Zs ka kl kc],r] w (iw S (M+2) (iB s) 0 w):=by
 have i:(Lit.int Zk s).wf=true:=by rcases f with ⟨-,rfl⟩|⟨-,rfl⟩|⟨-,rfl⟩|⟨-,rfl⟩|⟨-,rfl⟩|⟨-,rfl⟩|⟨-,rfl⟩|⟨-,rfl⟩|⟨-,rfl⟩|⟨-,rfl⟩|⟨-,rfl⟩|⟨-,rfl⟩|⟨-,rfl⟩|⟨-,rfl⟩|⟨-,rfl⟩<;>rfl
 obtain⟨W,d⟩:=il ((w.alloc (Zc #[Zi Zk op,Zi Zk l,Zt m,Zs na k j,Zs ka kl kc] 40)).alloc (Zc #[Zi Zk 0,Zs Zn 0 0,Zs Zn 0 0] 31));have c:Bw w W:=by rw[d];exact (gA _ _).alloc zS _
 have t:w.heap.size+2<=W.heap.size:=by rw[d];simp
 have g:W.heap[w.heap.size+1]?=Zo (Zc #[Zi Zk 0,Zs Zn 0 0,Zs Zn 0 0] 31 (0,0)):=by have:=heap_alloc_new (w.alloc (Zc #[Zi Zk op,Zi Zk l,Zt m,Zs na k j,Zs ka kl kc] 40)) (Zc #[Zi Zk 0,Zs Zn 0 0,Zs Zn 0 0] 31);rw[d];simpa using this
 have q:=a7 g;have n:=Lib.hid (vC s W);have b:Hid (∀h,Bw W h->iw S (M+2) (iB s) 0 w (Zr (Zu #[Za #[Zi Zk s,Zs Zn 0 0,Zs Zn 0 0],Zi Zk 0])) (((h.setCell ⟨w.heap.size+1,0,Zn⟩ (Zi Zk s)).setCell ⟨w.heap.size+1,1,Zn⟩ (Zs Zn 0 0)).setCell ⟨w.heap.size+1,2,Zn⟩ (Zs Zn 0 0))):=fun h a=>jv o (c.trans (a.mono c.size)) (yP i);clear o c g;rcases f with ⟨rfl,rfl⟩|⟨rfl,rfl⟩|⟨rfl,rfl⟩|⟨rfl,rfl⟩|⟨rfl,rfl⟩|⟨rfl,rfl⟩|⟨rfl,rfl⟩|⟨rfl,rfl⟩|⟨rfl,rfl⟩|⟨rfl,rfl⟩|⟨rfl,rfl⟩|⟨rfl,rfl⟩|⟨rfl,rfl⟩|⟨rfl,rfl⟩|⟨rfl,rfl⟩;all_goals
  go_in
  go_wp2_with fail
  rw[<- d]
  refine n.out.mono ?_
  rintro e h ⟨rfl,a⟩
  obtain⟨⟨u,x,y⟩,f0,f1,f2⟩:=fY ((a.block (w.heap.size+1) om).trans q.out)
  have p:=Lib.hid (b.out h a)
  clear a d b n
  go_wp2_with fail
  exact bodyPost_ret (by simp[results,results77,go_sem,u,x,y]) rfl p.out
theorem IV (M:Nat) (S:Nat->Prop) (x:Int) (y:ByteArray) (na ka:Option Addr) (u t kl kc:Nat) (v:Zv) (w:Zw) (r:Bd S w) (b off n cap:Nat) (o:b<w.heap.size) (hn:0<n) (E:Int) (F B:Option Addr) (H G D C:Nat) (k:K (M+1)) (A:a8 S w (M+1) k (Zi Zk E) (Zs F H G) (Zs B D C)) (g0:w.cell? ⟨b,off,Zn⟩=Zo (Zi Zk E)) (g1:w.cell? ⟨b,off+1,Zn⟩=Zo (Zs F H G)) (g2:w.cell? ⟨b,off+2,Zn⟩=Zo (Zs B D C)) :
  Calls prog 77 #[v,Za #[Zi Zk 7,Zi Zk x,Zt y,Zs na u t,Zs ka kl kc],Zs (Zo ⟨b,off,Zn⟩) n cap] w (iw S (M+2) (kF 6 k) 0 w):=by
 obtain⟨W,m⟩:=il ((w.alloc (Zc #[Zi Zk 7,Zi Zk x,Zt y,Zs na u t,Zs ka kl kc] 40)).alloc (Zc #[Zi Zk 0,Zs Zn 0 0,Zs Zn 0 0] 31));have a:Bw w W:=by rw[m];exact (gA _ _).alloc zS _
 have s:w.heap.size+2<=W.heap.size:=by rw[m];simp
 have q:W.heap[w.heap.size+1]?=Zo (Zc #[Zi Zk 0,Zs Zn 0 0,Zs Zn 0 0] 31 (0,0)):=by have:=heap_alloc_new (w.alloc (Zc #[Zi Zk 7,Zi Zk x,Zt y,Zs na u t,Zs ka kl kc] 40)) (Zc #[Zi Zk 0,Zs Zn 0 0,Zs Zn 0 0] 31);rw[m];simpa using this
 have J:=a7 q;have z:=Lib.hid (kA (M+1) S 6 k _ _ _ W rfl (A.keep (a6 a r) fun _ h=>h) (fun b o=>Zd (r b o) a.size));have g:Hid (∀l c0 c1 c2,Bw W l->a8 (Ov S W.heap.size Zn l) l (M+2) (kF 6 k) c0 c1 c2->iw S (M+2) _ 0 w (Zr (Zu #[Za #[c0,c1,c2],Zi Zk 0])) (((l.setCell ⟨w.heap.size+1,0,Zn⟩ c0).setCell ⟨w.heap.size+1,1,Zn⟩ c1).setCell ⟨w.heap.size+1,2,Zn⟩ c2)):=fun l c0 c1 c2 c d=>jv r (a.trans (c.mono a.size)) (oT s d);have f:∀i j:Obj,Bw w ((w.alloc i).alloc j):=fun i j=>(gA _ _).alloc zS _;have g0:=fun i j=>((f i j).cell (p:=⟨b,off,Zn⟩) o).trans g0;have g1:=fun i j=>((f i j).cell (p:=⟨b,off+1,Zn⟩) o).trans g1;have g2:=fun i j=>((f i j).cell (p:=⟨b,off+2,Zn⟩) o).trans g2;clear A r a q f;go_in;go_wp2_with fail;rw[<- m];refine z.out.mono ?_;rintro e l ⟨c,Y,Z,d2,rfl,d⟩;obtain⟨P,Q,T,R,U,X,V,rfl,rfl,rfl⟩:=d.shape;obtain⟨⟨L,N,O⟩,f0,f1,f2⟩:=fY ((c.block (w.heap.size+1) om).trans J.out);have I:=Lib.hid (g.out l _ _ _ c d);clear c m g z d;go_wp2_with fail;refine bodyPost_ret (v:=Zu #[Za #[Zi Zk P,Zs Q T R,Zs U X V],Zi Zk 0]) (by simp[results,results77,go_sem,L,N,O]) rfl ?_;exact I.out
theorem IW (M:Nat) (S:Nat->Prop) (x:Int) (y:ByteArray) (na ka:Option Addr) (u t kl kc:Nat) (v:Zv) (w:Zw) (r:Bd S w) (b off n cap:Nat) (o:b<w.heap.size) (hn:0<n) (E:Int) (F B:Option Addr) (H G D C:Nat) (k:K (M+1)) (A:a8 S w (M+1) k (Zi Zk E) (Zs F H G) (Zs B D C)) (g0:w.cell? ⟨b,off,Zn⟩=Zo (Zi Zk E)) (g1:w.cell? ⟨b,off+1,Zn⟩=Zo (Zs F H G)) (g2:w.cell? ⟨b,off+2,Zn⟩=Zo (Zs B D C)) :
  Calls prog 77 #[v,Za #[Zi Zk 8,Zi Zk x,Zt y,Zs na u t,Zs ka kl kc],Zs (Zo ⟨b,off,Zn⟩) n cap] w (iw S (M+2) (kF 4 k) 0 w):=by
 obtain⟨W,m⟩:=il ((w.alloc (Zc #[Zi Zk 8,Zi Zk x,Zt y,Zs na u t,Zs ka kl kc] 40)).alloc (Zc #[Zi Zk 0,Zs Zn 0 0,Zs Zn 0 0] 31));have a:Bw w W:=by rw[m];exact (gA _ _).alloc zS _
 have s:w.heap.size+2<=W.heap.size:=by rw[m];simp
 have q:W.heap[w.heap.size+1]?=Zo (Zc #[Zi Zk 0,Zs Zn 0 0,Zs Zn 0 0] 31 (0,0)):=by have:=heap_alloc_new (w.alloc (Zc #[Zi Zk 8,Zi Zk x,Zt y,Zs na u t,Zs ka kl kc] 40)) (Zc #[Zi Zk 0,Zs Zn 0 0,Zs Zn 0 0] 31);rw[m];simpa using this
 have J:=a7 q;have z:=Lib.hid (kA (M+1) S 4 k _ _ _ W rfl (A.keep (a6 a r) fun _ h=>h) (fun b o=>Zd (r b o) a.size));have g:Hid (∀l c0 c1 c2,Bw W l->a8 (Ov S W.heap.size Zn l) l (M+2) (kF 4 k) c0 c1 c2->iw S (M+2) _ 0 w (Zr (Zu #[Za #[c0,c1,c2],Zi Zk 0])) (((l.setCell ⟨w.heap.size+1,0,Zn⟩ c0).setCell ⟨w.heap.size+1,1,Zn⟩ c1).setCell ⟨w.heap.size+1,2,Zn⟩ c2)):=fun l c0 c1 c2 c d=>jv r (a.trans (c.mono a.size)) (oT s d);have f:∀i j:Obj,Bw w ((w.alloc i).alloc j):=fun i j=>(gA _ _).alloc zS _;have g0:=fun i j=>((f i j).cell (p:=⟨b,off,Zn⟩) o).trans g0;have g1:=fun i j=>((f i j).cell (p:=⟨b,off+1,Zn⟩) o).trans g1;have g2:=fun i j=>((f i j).cell (p:=⟨b,off+2,Zn⟩) o).trans g2;clear A r a q f;go_in;go_wp2_with fail;rw[<- m];refine z.out.mono ?_;rintro e l ⟨c,Y,Z,d2,rfl,d⟩;obtain⟨P,Q,T,R,U,X,V,rfl,rfl,rfl⟩:=d.shape;obtain⟨⟨L,N,O⟩,f0,f1,f2⟩:=fY ((c.block (w.heap.size+1) om).trans J.out);have I:=Lib.hid (g.out l _ _ _ c d);clear c m g z d;go_wp2_with fail;refine bodyPost_ret (v:=Zu #[Za #[Zi Zk P,Zs Q T R,Zs U X V],Zi Zk 0]) (by simp[results,results77,go_sem,L,N,O]) rfl ?_;exact I.out
theorem G4 (M:Nat) (S:Nat->Prop) (x:Int) (y:ByteArray) (na ka:Option Addr) (u t kl kc:Nat) (v:Zv) (w:Zw) (r:Bd S w) (b off n cap:Nat) (o:b<w.heap.size) (hn:(1:Int)<(n:Int)) (E:Int) (F B:Option Addr) (H G D C:Nat) (k:K (M+1)) (A:a8 S w (M+1) k (Zi Zk E) (Zs F H G) (Zs B D C)) (g0:w.cell? ⟨b,off+3,Zn⟩=Zo (Zi Zk E)) (g1:w.cell? ⟨b,off+3+1,Zn⟩=Zo (Zs F H G)) (g2:w.cell? ⟨b,off+3+2,Zn⟩=Zo (Zs B D C)) :
  Calls prog 77 #[v,Za #[Zi Zk 33,Zi Zk x,Zt y,Zs na u t,Zs ka kl kc],Zs (Zo ⟨b,off,Zn⟩) n cap] w (iw S (M+2) (kF 4 k) 0 w):=by
 obtain⟨W,m⟩:=il ((w.alloc (Zc #[Zi Zk 33,Zi Zk x,Zt y,Zs na u t,Zs ka kl kc] 40)).alloc (Zc #[Zi Zk 0,Zs Zn 0 0,Zs Zn 0 0] 31));have a:Bw w W:=by rw[m];exact (gA _ _).alloc zS _
 have s:w.heap.size+2<=W.heap.size:=by rw[m];simp
 have q:W.heap[w.heap.size+1]?=Zo (Zc #[Zi Zk 0,Zs Zn 0 0,Zs Zn 0 0] 31 (0,0)):=by have:=heap_alloc_new (w.alloc (Zc #[Zi Zk 33,Zi Zk x,Zt y,Zs na u t,Zs ka kl kc] 40)) (Zc #[Zi Zk 0,Zs Zn 0 0,Zs Zn 0 0] 31);rw[m];simpa using this
 have J:=a7 q;have z:=Lib.hid (kA (M+1) S 4 k _ _ _ W rfl (A.keep (a6 a r) fun _ h=>h) (fun b o=>Zd (r b o) a.size));have g:Hid (∀l c0 c1 c2,Bw W l->a8 (Ov S W.heap.size Zn l) l (M+2) (kF 4 k) c0 c1 c2->iw S (M+2) _ 0 w (Zr (Zu #[Za #[c0,c1,c2],Zi Zk 0])) (((l.setCell ⟨w.heap.size+1,0,Zn⟩ c0).setCell ⟨w.heap.size+1,1,Zn⟩ c1).setCell ⟨w.heap.size+1,2,Zn⟩ c2)):=fun l c0 c1 c2 c d=>jv r (a.trans (c.mono a.size)) (oT s d);have f:∀i j:Obj,Bw w ((w.alloc i).alloc j):=fun i j=>(gA _ _).alloc zS _;have g0:=fun i j=>((f i j).cell (p:=⟨b,off+3,Zn⟩) o).trans g0;have g1:=fun i j=>((f i j).cell (p:=⟨b,off+3+1,Zn⟩) o).trans g1;have g2:=fun i j=>((f i j).cell (p:=⟨b,off+3+2,Zn⟩) o).trans g2;clear A r a q f;go_in;go_wp2_with fail;rw[<- m];refine z.out.mono ?_;rintro e l ⟨c,Y,Z,d2,rfl,d⟩;obtain⟨P,Q,T,R,U,X,V,rfl,rfl,rfl⟩:=d.shape;obtain⟨⟨L,N,O⟩,f0,f1,f2⟩:=fY ((c.block (w.heap.size+1) om).trans J.out);have I:=Lib.hid (g.out l _ _ _ c d);clear c m g z d;go_wp2_with fail;refine bodyPost_ret (v:=Zu #[Za #[Zi Zk P,Zs Q T R,Zs U X V],Zi Zk 0]) (by simp[results,results77,go_sem,L,N,O]) rfl ?_;exact I.out
theorem mN (op:Int) (f:op=19∨op=20∨op=31∨op=32∨op=35) (M:Nat) (S:Nat->Prop) (x:Int) (y:ByteArray) (na ka:Option Addr) (u t kl kc:Nat) (v:Zv) (w:Zw) (q:Bd S w) (b off n cap:Nat) (e:b<w.heap.size) (z:(1:Int)<(n:Int)) (j:Int) (l g:Option Addr) (o m i h:Nat) (k:K (M+1)) (r:a8 S w (M+1) k (Zi Zk j) (Zs l o m) (Zs g i h)) (g0:w.cell? ⟨b,off+3,Zn⟩=Zo (Zi Zk j)) (g1:w.cell? ⟨b,off+3+1,Zn⟩=Zo (Zs l o m)) (g2:w.cell? ⟨b,off+3+2,Zn⟩=Zo (Zs g i h)) :
  Calls prog 77 #[v,Za #[Zi Zk op,Zi Zk x,Zt y,Zs na u t,Zs ka kl kc],Zs (Zo ⟨b,off,Zn⟩) n cap] w (iw S (M+2) (pq k) 0 w):=by
 have s:=Lib.hid (sX q (r.cp (L:=M+1) om));have a:∀c d:Obj,Bw w ((w.alloc c).alloc d):=fun c d=>(gA _ _).alloc zS _;have g0:=fun c d=>((a c d).cell (p:=⟨b,off+3,Zn⟩) e).trans g0;have g1:=fun c d=>((a c d).cell (p:=⟨b,off+3+1,Zn⟩) e).trans g1;have g2:=fun c d=>((a c d).cell (p:=⟨b,off+3+2,Zn⟩) e).trans g2;clear r q a;rcases f with rfl|rfl|rfl|rfl|rfl;all_goals
  go_in
  go_wp2_with fail
  refine bodyPost_ret (v:=Zu #[Za #[Zi Zk j,Zs l o m,Zs g i h],Zi Zk 0]) (by simp[results,results77,go_sem]) rfl ?_
  exact s.out _ _
theorem qF (op:Int) (f:op=27∨op=28∨op=34) (M:Nat) (S:Nat->Prop) (x:Int) (y:ByteArray) (na ka:Option Addr) (u t kl kc:Nat) (v:Zv) (w:Zw) (q:Bd S w) (b off n cap:Nat) (e:b<w.heap.size) (z:0<n) (j:Int) (l g:Option Addr) (o m i h:Nat) (k:K (M+1)) (r:a8 S w (M+1) k (Zi Zk j) (Zs l o m) (Zs g i h)) (g0:w.cell? ⟨b,off,Zn⟩=Zo (Zi Zk j)) (g1:w.cell? ⟨b,off+1,Zn⟩=Zo (Zs l o m)) (g2:w.cell? ⟨b,off+2,Zn⟩=Zo (Zs g i h)) :
  Calls prog 77 #[v,Za #[Zi Zk op,Zi Zk x,Zt y,Zs na u t,Zs ka kl kc],Zs (Zo ⟨b,off,Zn⟩) n cap] w (iw S (M+2) (pq k) 0 w):=by
 have s:=Lib.hid (sX q (r.cp (L:=M+1) om));have a:∀c d:Obj,Bw w ((w.alloc c).alloc d):=fun c d=>(gA _ _).alloc zS _;have g0:=fun c d=>((a c d).cell (p:=⟨b,off,Zn⟩) e).trans g0;have g1:=fun c d=>((a c d).cell (p:=⟨b,off+1,Zn⟩) e).trans g1;have g2:=fun c d=>((a c d).cell (p:=⟨b,off+2,Zn⟩) e).trans g2;clear r q a;rcases f with rfl|rfl|rfl;all_goals
  go_in
  go_wp2_with fail
  refine bodyPost_ret (v:=Zu #[Za #[Zi Zk j,Zs l o m,Zs g i h],Zi Zk 0]) (by simp[results,results77,go_sem]) rfl ?_
  exact s.out _ _
theorem G2 (M:Nat) (S:Nat->Prop) (D:Int) (E:ByteArray) (na ka:Option Addr) (C B kl kc:Nat) (v:Zv) (w:Zw) (t:Bd S w) (b off n cap:Nat) (z:b<w.heap.size) (F:0<n) (f a x i:Nat) (h:f<w.heap.size) (A:0<x) (g:w.cell? ⟨b,off+2,Zn⟩=Zo (Zs (Zo ⟨f,a,Zn⟩) x i)) (o:Int) (q j:Option Addr) (s r m l:Nat) (k:K (M+1)) (u:a8 S w (M+1) k (Zi Zk o) (Zs q s r) (Zs j m l)) (g0:w.cell? ⟨f,a,Zn⟩=Zo (Zi Zk o)) (g1:w.cell? ⟨f,a+1,Zn⟩=Zo (Zs q s r)) (g2:w.cell? ⟨f,a+2,Zn⟩=Zo (Zs j m l)) :
  Calls prog 77 #[v,Za #[Zi Zk 25,Zi Zk D,Zt E,Zs na C B,Zs ka kl kc],Zs (Zo ⟨b,off,Zn⟩) n cap] w (iw S (M+2) (pq k) 0 w):=by have y:=Lib.hid (sX t (u.cp (L:=M+1) om));have c:∀d e:Obj,Bw w ((w.alloc d).alloc e):=fun d e=>(gA _ _).alloc zS _;have g:=fun d e=>((c d e).cell (p:=⟨b,off+2,Zn⟩) z).trans g;have g0:=fun d e=>((c d e).cell (p:=⟨f,a,Zn⟩) h).trans g0;have g1:=fun d e=>((c d e).cell (p:=⟨f,a+1,Zn⟩) h).trans g1;have g2:=fun d e=>((c d e).cell (p:=⟨f,a+2,Zn⟩) h).trans g2;clear u t c;go_in;go_wp2_with fail;refine bodyPost_ret (v:=Zu #[Za #[Zi Zk o,Zs q s r,Zs j m l],Zi Zk 0]) (by simp[results,results77,go_sem]) rfl ?_;exact y.out _ _
theorem G3 (M:Nat) (S:Nat->Prop) (p:Int) (q:ByteArray) (na ka:Option Addr) (o n kl kc:Nat) (v:Zv) (F:Zv) (w:Zw) (m:Bd S w) :
  Calls prog 77 #[v,Za #[Zi Zk 30,Zi Zk p,Zt q,Zs na o n,Zs ka kl kc],F] w (iw S (M+2) (kF 6 (iB 1)) 0 w):=by
 obtain⟨W,i⟩:=il ((w.alloc (Zc #[Zi Zk 30,Zi Zk p,Zt q,Zs na o n,Zs ka kl kc] 40)).alloc (Zc #[Zi Zk 0,Zs Zn 0 0,Zs Zn 0 0] 31));have f:Bw w W:=by rw[i];exact (gA _ _).alloc zS _
 have H:w.heap.size+2<=W.heap.size:=by rw[i];simp
 have k:W.heap[w.heap.size+1]?=Zo (Zc #[Zi Zk 0,Zs Zn 0 0,Zs Zn 0 0] 31 (0,0)):=by have:=heap_alloc_new (w.alloc (Zc #[Zi Zk 30,Zi Zk p,Zt q,Zs na o n,Zs ka kl kc] 40)) (Zc #[Zi Zk 0,Zs Zn 0 0,Zs Zn 0 0] 31);rw[i];simpa using this
 have E:=a7 k;have A:=Lib.hid (vC 1 W);have B:Hid (∀g,Bw W g->Calls prog 104 #[Zi Zk 6,Za #[Zi Zk 1,Zs Zn 0 0,Zs Zn 0 0]] g fun e l=>Bw W l/\∃c0 c1 c2,e=Zr (Za #[c0,c1,c2])/\iw S (M+2) (kF 6 (iB 1)) 0 w (Zr (Zu #[Za #[c0,c1,c2],Zi Zk 0])) (((l.setCell ⟨w.heap.size+1,0,Zn⟩ c0).setCell ⟨w.heap.size+1,1,Zn⟩ c1).setCell ⟨w.heap.size+1,2,Zn⟩ c2)/\∃r s u t x z y,c0=Zi Zk r/\c1=Zs s u t/\c2=Zs x z y):=fun g a=>by have d:=f.trans (a.mono f.size);refine (kA (M+1) S 6 (iB 1) _ _ _ g rfl (yP rfl) (fun b G=>Zd (m b G) d.size)).mono ?_;rintro e l ⟨c,c0,c1,c2,rfl,j⟩;exact⟨a.trans (c.mono a.size),c0,c1,c2,rfl,jv m (d.trans (c.mono d.size)) (oT (by have:=a.size;omega) j),j.shape⟩
 clear m f k;go_in;go_wp2_with fail;rw[<- i];refine A.out.mono ?_;rintro e g ⟨rfl,a⟩;have h:=Lib.hid (B.out g a);clear a A B i;go_wp2_with fail;refine h.out.mono ?_;rintro e l ⟨c,L,N,O,rfl,C,r,s,u,t,x,z,y,rfl,rfl,rfl⟩;obtain⟨⟨I,J,K⟩,f0,f1,f2⟩:=fY ((c.block (w.heap.size+1) om).trans E.out);have D:=Lib.hid C;clear c h C;go_wp2_with fail;refine bodyPost_ret (v:=Zu #[Za #[Zi Zk r,Zs s u t,Zs x z y],Zi Zk 0]) (by simp[results,results77,go_sem,I,J,K]) rfl ?_;exact D.out
theorem vv(a b:jF M)(x:ByteArray)(h:∀p,p∈a->p.1≠x):iY (a++b) x=iY b x:=by
 induction a with
 | nil=>rfl
 | cons p r e=>obtain⟨s,k⟩:=p;have c:s≠x:=h (s,k) (List.mem_cons_self ..);rw[List.cons_append,iY,if_neg c];exact e fun q d=>h q (List.mem_cons_of_mem _ d)
theorem Fs(l:List (ByteArray×K (M+1)))(x:ByteArray)(i:Nat)(hi:i<l.length)(b:l[i].1=x)(c:∀j (h:j<l.length),i<j->l[j].1≠x):iY l.reverse x=Zo l[i].2:=by
 have e:l=l.take i++(l[i] :: l.drop (i+1)):=by rw[<- List.drop_eq_getElem_cons hi,List.take_append_drop]
 have a:l.reverse=(l.drop (i+1)).reverse++(l[i] :: (l.take i).reverse):=by
  conv=>lhs;rw[e]
  simp
 rw[a,vv];·rw[iY,if_pos b]
 ·intro p d;obtain⟨j,f,rfl⟩:=List.getElem_of_mem (List.mem_reverse.1 d);rw[List.getElem_drop];exact c _ _ om
theorem Ft(l:List (ByteArray×K (M+1)))(x:ByteArray)(b:∀j (h:j<l.length),l[j].1≠x):iY l.reverse x=Zn:=by have:=vv (M:=M) l.reverse [] x (fun p c=>by obtain⟨j,a,rfl⟩:=List.getElem_of_mem (List.mem_reverse.1 c);exact b j a);rw[List.append_nil]at this;exact this
def nE{M:Nat}(env:jF M)(x:ByteArray):K (M+2)×Int:=match iY env x with|Zo k=>(pq k,0)|Zn=>(zU,5)
theorem IQ (M:Nat) (S:Nat->Prop) (x1:Int) (x2:ByteArray) (ka:Option Addr) (P Z kl kc:Nat) (v:Zv) (bv:Zv) (w:Zw) (hB:Bd S w) (l:List (ByteArray × K (M+1))) (hv:jf S w (M+1) l v) (hl:l.length<=3000000) (p q:Nat) (nm:ByteArray) (hp:p<w.heap.size) (ai:0<P) (g:w.cell? ⟨p,q,Zn⟩=Zo (Zt nm)) :
  Calls prog 77 #[v,Za #[Zi Zk 4,Zi Zk x1,Zt x2,Zs (Zo ⟨p,q,Zn⟩) P Z,Zs ka kl kc],bv] w (iw S (M+2) (nE l.reverse nm).1 (nE l.reverse nm).2 w):=by
 obtain⟨W,O⟩:=il ((w.alloc (Zc #[Zi Zk 4,Zi Zk x1,Zt x2,Zs (Zo ⟨p,q,Zn⟩) P Z,Zs ka kl kc] 40)).alloc (Zc #[Zi Zk 0,Zs Zn 0 0,Zs Zn 0 0] 31));have c:Bw w W:=by rw[O];exact (gA _ _).alloc zS _
 have al:w.heap.size+2<=W.heap.size:=by rw[O];simp
 have Y:W.heap[w.heap.size+1]?=Zo (Zc #[Zi Zk 0,Zs Zn 0 0,Zs Zn 0 0] 31 (0,0)):=by have:=heap_alloc_new (w.alloc (Zc #[Zi Zk 4,Zi Zk x1,Zt x2,Zs (Zo ⟨p,q,Zn⟩) P Z,Zs ka kl kc] 40)) (Zc #[Zi Zk 0,Zs Zn 0 0,Zs Zn 0 0] 31);rw[O];simpa using this
 have T:W.heap[w.heap.size]?=Zo (Zc #[Zi Zk 4,Zi Zk x1,Zt x2,Zs (Zo ⟨p,q,Zn⟩) P Z,Zs ka kl kc] 40 (0,0)):=by rw[O,Zh _ _ _ zS];exact heap_alloc_new _ _
 obtain⟨z0,z1,z2,z3,z4⟩:=fZ T;have g:=kC c g hp;obtain⟨ao,cap,rfl,-,t⟩:=id hv;obtain⟨⟨r0,r1,r2⟩,f0,f1,f2⟩:=fY Y;have ab:Hid (∀ i (h:i<l.length),∃ b off H I N J E G F,ao=Zo ⟨b,off,Zn⟩/\W.cell? ⟨b,off+i*4,Zn⟩=Zo (Zt l[i].1)/\(W.cell? ⟨b,off+i*4+1,Zn⟩=Zo (Zi Zk H)/\W.cell? ⟨b,off+i*4+1+1,Zn⟩=Zo (Zs I N J)/\W.cell? ⟨b,off+i*4+1+2,Zn⟩=Zo (Zs E G F)) /\
   ∀V:Zw,V.heap=W.heap->Bw w V->l[i].1=nm->(∀j (h:j<l.length),i<j->l[j].1≠nm)->iw S (M+2) (nE l.reverse nm).1 (nE l.reverse nm).2 w (Zr (Zu #[Za #[Zi Zk H,Zs I N J,Zs E G F],Zi Zk 0])) (((V.setCell ⟨w.heap.size+1,0,Zn⟩ (Zi Zk H)).setCell ⟨w.heap.size+1,1,Zn⟩ (Zs I N J)).setCell ⟨w.heap.size+1,2,Zn⟩ (Zs E G F))):=fun i hi=>by
  obtain⟨b,off,ha,hb,B⟩:=t (fun e=>by rw[e]at hi;simp at hi)
  obtain⟨c0,c1,c2,e,e0,e1,e2,aj,hk⟩:=B i hi
  obtain⟨H,I,N,J,E,G,F,rfl,rfl,rfl⟩:=hk.shape
  have r:=hB b hb
  refine⟨b,off,H,I,N,J,E,G,F,ha,kC c e r,⟨kC c e0 r,kC c e1 r,kC c e2 r⟩,fun V _ s he D=>?_⟩
  have hr:nE l.reverse nm=(pq l[i].2,0):=by unfold nE;rw[Fs l nm i hi he D]
  rw[hr]
  exact jv hB s ((hk.cp (L:=M+1) om).keep (a6 s hB) fun _ h=>.inl h)
 have HN:Hid (∀V,Bw w V->(∀j (h:j<l.length),l[j].1≠nm)->iw S (M+2) (nE l.reverse nm).1 (nE l.reverse nm).2 w (Zr (Zu #[Za #[Zi Zk 0,Zs Zn 0 0,Zs Zn 0 0],Zi Zk 5])) (((V.setCell ⟨w.heap.size+1,0,Zn⟩ (Zi Zk 0)).setCell ⟨w.heap.size+1,1,Zn⟩ (Zs Zn 0 0)).setCell ⟨w.heap.size+1,2,Zn⟩ (Zs Zn 0 0))):=fun V ad D=>by
  have hr:nE l.reverse nm=(zU,5):=by unfold nE;rw[Ft l nm D]
  rw[hr];exact sW (iH ad om) (show (5:Int)≠0 by decide)
 obtain⟨n,D⟩:∃n,l.length=n:=⟨_,rfl⟩;have Q:=a7 D;rw[D]at hl ⊢;have ak:IntKind.i64.wrap ((n:Int)-1)=(n:Int)-1:=by rw[IntKind.wrap_i64];omega
 have HC:Hid (∀V:Zw,V.heap=W.heap->V.cell? ⟨w.heap.size,3,Zn⟩=Zo (Zs (Zo ⟨p,q,Zn⟩) P Z)/\V.cell? ⟨p,q,Zn⟩=Zo (Zt nm)/\(V.cell? ⟨w.heap.size+1,0,Zn⟩=Zo (Zi Zk 0)/\V.cell? ⟨w.heap.size+1,1,Zn⟩=Zo (Zs Zn 0 0)/\V.cell? ⟨w.heap.size+1,2,Zn⟩=Zo (Zs Zn 0 0))/\V.frozen? ⟨w.heap.size+1,0,Zn⟩=false/\V.frozen? ⟨w.heap.size+1,1,Zn⟩=false/\V.frozen? ⟨w.heap.size+1,2,Zn⟩=false):=fun V R=>by have t:∀a,V.cell? a=W.cell? a:=fun a=>World.cell?_of_block (by rw[R]);have hf:∀a,V.frozen? a=W.frozen? a:=fun a=>World.frozen?_of_block (by rw[R]);exact⟨(t _).trans z3,(t _).trans g,⟨(t _).trans r0,(t _).trans r1,(t _).trans r2⟩,(hf _).trans f0,(hf _).trans f1,(hf _).trans f2⟩
 have aa:=a7 c;clear hv t hB c Y T D z0 z1 z2 z3 z4 g r0 r1 r2 f0 f1 f2;go_in;go_wp2_with fail;rw[<- O];clear O;go_loopw [8] (fun iv wr=>∃(x:Int)(j:Nat),iv=Zi Zk x/\x=(j:Int)-1/\j<=n/\(∀i (h:i<l.length),j<=i->l[i].1≠nm)/\wr.heap=W.heap/\Bw w wr) (fun iv _=>(intOf iv+1).toNat);case atStart=>exact⟨(n:Int)-1,n,rfl,rfl,Zl _,fun i h hi=>absurd (Q.out ▸ h) om,rfl,aa.out⟩
 case round=>
  obtain⟨x,j,rfl,hx,hj,X,C,U⟩:=hrel;have z:=Lib.hid X;obtain⟨c3,cg,⟨c0,c1,c2⟩,d0,d1,d2⟩:=HC.out wr C;have o:=Lib.hid C;have m:=a7 U;clear X C U;cases j with
  | zero=>
   obtain rfl:x = -1:=by simpa using hx
   have HF:=Lib.hid (HN.out wr m.out (fun j h=>z.out j h (Nat.zero_le _)));clear hx;go_wp2_with fail;refine bodyPost_ret (v:=Zu #[Za #[Zi Zk 0,Zs Zn 0 0,Zs Zn 0 0],Zi Zk 5]) (by simp[results,results77,go_sem,c0,c1,c2]) rfl ?_;exact HF.out
  | succ i=>
   obtain rfl:x=(i:Int):=by omega
   have ae:i<l.length:=by have:=Q.out;omega
   obtain⟨b,off,H,I,N,J,E,G,F,rfl,e,⟨e0,e1,e2⟩,u⟩:=ab.out i ae;have ah:(i:Int)<(n:Int):=om;have ag:(0:Int)<=(i:Int):=om;have ac:=Lib.hid u;generalize hy:l[i].1=y at *;have HY:=Lib.hid hy;have f:∀a,wr.cell? a=W.cell? a:=fun a=>World.cell?_of_block (by rw[o.out]);have k:=(f ⟨b,off+i*4,Zn⟩).trans e;have k0:=(f ⟨b,off+i*4+1,Zn⟩).trans e0;have k1:=(f ⟨b,off+i*4+1+1,Zn⟩).trans e1;have k2:=(f ⟨b,off+i*4+1+2,Zn⟩).trans e2;have af:IntKind.i64.wrap ((i:Int)-1)=(i:Int)-1:=by rw[IntKind.wrap_i64];omega
   clear hx u hy e e0 e1 e2 f;obtain⟨V,R⟩:=il wr;rw[<- R]at o m k k0 k1 k2 c3 cg c0 c1 c2 d0 d1 d2 ⊢;clear R;by_cases d:y=nm
   ·have s:(y.toList==nm.toList)=true:=by rw[d];simp
    have A:=Lib.hid d;clear d;go_wp2_with fail;go_quiet (fail);go_wp2_with fail;refine bodyPost_ret (v:=Zu #[Za #[Zi Zk H,Zs I N J,Zs E G F],Zi Zk 0]) (by simp[results,results77,go_sem,c0,c1,c2]) rfl ?_;exact ac.out _ o.out (below_drewN m.out _) (by rw[A.out]) (fun j h hj=>z.out j h om)
   ·have s:(y.toList==nm.toList)=false:=by rw[beq_eq_false_iff_ne];intro e;exact d (by rw[ByteArray.toList_eq,ByteArray.toList_eq]at e;exact WideShapes.bytes_inj e)
    have A:=Lib.hid d;clear d;go_wp2_with fail;go_quiet (fail);go_wp2;go_roundw;case rel=>
     refine⟨(i:Int)-1,i,?_,rfl,om,fun j h hj=>?_,o.out,below_drewN m.out _⟩;·first|rfl|rw[af]|go_num
     ·by_cases e:j=i;·subst e;rw[HY.out];exact A.out
      ·exact z.out j h om
    case measure=>(simp[intOf];try omega)
theorem IR (M:Nat) (S:Nat->Prop) (Q:Int) (d:ByteArray) (na ka:Option Addr) (P O kl kc:Nat) (v:Zv) (bv:Zv) (w:Zw) (X:Bd S w) (hM:5<=M) (G:jW d=true) :
  Calls prog 77 #[v,Za #[Zi Zk 5,Zi Zk Q,Zt d,Zs na P O,Zs ka kl kc],bv] w (iw S (M+2) (kF 6 (qd M d)) 0 w):=by
 obtain⟨W,A⟩:=il ((w.alloc (Zc #[Zi Zk 5,Zi Zk Q,Zt d,Zs na P O,Zs ka kl kc] 40)).alloc (Zc #[Zi Zk 0,Zs Zn 0 0,Zs Zn 0 0] 31));have z:Bw w W:=by rw[A];exact (gA _ _).alloc zS _
 have ac:w.heap.size+2<=W.heap.size:=by rw[A];simp
 have K:W.heap[w.heap.size+1]?=Zo (Zc #[Zi Zk 0,Zs Zn 0 0,Zs Zn 0 0] 31 (0,0)):=by have:=heap_alloc_new (w.alloc (Zc #[Zi Zk 5,Zi Zk Q,Zt d,Zs na P O,Zs ka kl kc] 40)) (Zc #[Zi Zk 0,Zs Zn 0 0,Zs Zn 0 0] 31);rw[A];simpa using this
 have HZ:=a7 K;obtain⟨k,N⟩:∃k,i6 (d.size+8) d=Zo k:=Option.isSome_iff_exists.1 G;obtain⟨T,I,R⟩:=kt N;have J:qd M d=fO M (d.size+8) k:=by unfold qd;rw[N]
 have t:=mK (m:=d.size+7) N;have U:Hid (Calls prog 103 #[Zt d] W fun e g=>Bw W g/\∃i j p l q s r,e=Zr (Zu #[Za #[Zi Zk i,Zs j p l,Zs q s r],.bool true])/\a8 (fun b=>W.heap.size<=b/\b<g.heap.size) g (M+1) (qd M d) (Zi Zk i) (Zs j p l) (Zs q s r)):=by refine (mC d (d.size+7) om om W).mono ?_;rintro e g ⟨c,c0,c1,c2,rfl,f⟩;rw[t.1]at f;obtain⟨i,j,p,l,q,s,r,rfl,rfl,rfl⟩:=f.shape;refine⟨c,i,j,p,l,q,s,r,by rw[t.2],?_⟩;rw[J];exact a8.okd (n:=d.size+8) I hM f
 have V:Hid (∀g i j p l q s r,Bw W g->a8 (fun b=>W.heap.size<=b/\b<g.heap.size) g (M+1) (qd M d) (Zi Zk i) (Zs j p l) (Zs q s r)->Calls prog 104 #[Zi Zk 6,Za #[Zi Zk i,Zs j p l,Zs q s r]] (g.alloc (Zc #[Zi Zk i,Zs j p l,Zs q s r] 31)) fun e L=>Bw W L/\∃c0 c1 c2,e=Zr (Za #[c0,c1,c2])/\iw S (M+2) (kF 6 (qd M d)) 0 w (Zr (Zu #[Za #[c0,c1,c2],Zi Zk 0])) (((L.setCell ⟨w.heap.size+1,0,Zn⟩ c0).setCell ⟨w.heap.size+1,1,Zn⟩ c1).setCell ⟨w.heap.size+1,2,Zn⟩ c2)/\∃i j p l q s r,c0=Zi Zk i/\c1=Zs j p l/\c2=Zs q s r):=fun g i j p l q s r c f=>by
  have C:=jq c (Zc #[Zi Zk i,Zs j p l,Zs q s r] 31);have aa:=c.size;refine (kA (M+1) (fun b=>W.heap.size<=b/\b<g.heap.size) 6 (qd M d) _ _ _ _ rfl (f.keep (fun b x=>Zh _ _ _ x.2) fun _ h=>h) (fun b x=>zE)).mono ?_;rintro e L ⟨u,c0,c1,c2,rfl,F⟩;have D:=C.trans (u.mono C.size);have ab:g.heap.size+1<=L.heap.size:=by have:=u.size;simpa using this
  refine⟨D,c0,c1,c2,rfl,jv X (z.trans (D.mono z.size)) (F.keep (fun _ _=>rfl) fun b x=>?_),F.shape⟩;rcases x with x|x;·exact .inr ⟨om,om,zS⟩
  ·have h1:g.heap.size+1<=b:=by have:=x.1;simpa using this
   exact .inr ⟨om,x.2⟩
 clear X z K N I R J t G T;go_in;go_wp2_with fail;rw[<- A];refine U.out.mono ?_;rintro e g ⟨c,i,j,p,l,q,s,r,rfl,f⟩;have B:=Lib.hid (V.out g i j p l q s r c f);have E:=c.block w.heap.size om;have y:W.heap[w.heap.size]?=Zo (Zc #[Zi Zk 5,Zi Zk Q,Zt d,Zs na P O,Zs ka kl kc] 40 (0,0)):=by rw[A,Zh _ _ _ zS];exact heap_alloc_new _ _
 obtain⟨z0,z1,z2,z3,z4⟩:=fZ (E.trans y);have H:w.heap.size<g.heap.size:=by have:=c.size;omega
 have z0:=fun o=>(World.cell?_of_block (a:=⟨w.heap.size,0,Zn⟩) (Zh g o _ H)).trans z0;clear c U V A f E y z1 z2 z3 z4;go_wp2_with fail;refine B.out.mono ?_;rintro e L ⟨u,d0,d1,d2,rfl,Y,i,j,p,l,q,s,r,rfl,rfl,rfl⟩;obtain⟨⟨r0,r1,r2⟩,f0,f1,f2⟩:=fY ((u.block (w.heap.size+1) om).trans HZ.out);have Z:=Lib.hid Y;clear u B Y;go_wp2_with fail;refine bodyPost_ret (v:=Zu #[Za #[Zi Zk i,Zs j p l,Zs q s r],Zi Zk 0]) (by simp[results,results77,go_sem,r0,r1,r2]) rfl ?_;exact Z.out
theorem IU (M:Nat) (S:Nat->Prop) (Q:Int) (d:ByteArray) (na ka:Option Addr) (P O kl kc:Nat) (v:Zv) (bv:Zv) (w:Zw) (X:Bd S w) (hM:5<=M) (G:jW d=true) :
  Calls prog 77 #[v,Za #[Zi Zk 6,Zi Zk Q,Zt d,Zs na P O,Zs ka kl kc],bv] w (iw S (M+2) (kF 4 (qd M d)) 0 w):=by
 obtain⟨W,A⟩:=il ((w.alloc (Zc #[Zi Zk 6,Zi Zk Q,Zt d,Zs na P O,Zs ka kl kc] 40)).alloc (Zc #[Zi Zk 0,Zs Zn 0 0,Zs Zn 0 0] 31));have z:Bw w W:=by rw[A];exact (gA _ _).alloc zS _
 have ac:w.heap.size+2<=W.heap.size:=by rw[A];simp
 have K:W.heap[w.heap.size+1]?=Zo (Zc #[Zi Zk 0,Zs Zn 0 0,Zs Zn 0 0] 31 (0,0)):=by have:=heap_alloc_new (w.alloc (Zc #[Zi Zk 6,Zi Zk Q,Zt d,Zs na P O,Zs ka kl kc] 40)) (Zc #[Zi Zk 0,Zs Zn 0 0,Zs Zn 0 0] 31);rw[A];simpa using this
 have HZ:=a7 K;obtain⟨k,N⟩:∃k,i6 (d.size+8) d=Zo k:=Option.isSome_iff_exists.1 G;obtain⟨T,I,R⟩:=kt N;have J:qd M d=fO M (d.size+8) k:=by unfold qd;rw[N]
 have t:=mK (m:=d.size+7) N;have U:Hid (Calls prog 103 #[Zt d] W fun e g=>Bw W g/\∃i j p l q s r,e=Zr (Zu #[Za #[Zi Zk i,Zs j p l,Zs q s r],.bool true])/\a8 (fun b=>W.heap.size<=b/\b<g.heap.size) g (M+1) (qd M d) (Zi Zk i) (Zs j p l) (Zs q s r)):=by refine (mC d (d.size+7) om om W).mono ?_;rintro e g ⟨c,c0,c1,c2,rfl,f⟩;rw[t.1]at f;obtain⟨i,j,p,l,q,s,r,rfl,rfl,rfl⟩:=f.shape;refine⟨c,i,j,p,l,q,s,r,by rw[t.2],?_⟩;rw[J];exact a8.okd (n:=d.size+8) I hM f
 have V:Hid (∀g i j p l q s r,Bw W g->a8 (fun b=>W.heap.size<=b/\b<g.heap.size) g (M+1) (qd M d) (Zi Zk i) (Zs j p l) (Zs q s r)->Calls prog 104 #[Zi Zk 4,Za #[Zi Zk i,Zs j p l,Zs q s r]] (g.alloc (Zc #[Zi Zk i,Zs j p l,Zs q s r] 31)) fun e L=>Bw W L/\∃c0 c1 c2,e=Zr (Za #[c0,c1,c2])/\iw S (M+2) (kF 4 (qd M d)) 0 w (Zr (Zu #[Za #[c0,c1,c2],Zi Zk 0])) (((L.setCell ⟨w.heap.size+1,0,Zn⟩ c0).setCell ⟨w.heap.size+1,1,Zn⟩ c1).setCell ⟨w.heap.size+1,2,Zn⟩ c2)/\∃i j p l q s r,c0=Zi Zk i/\c1=Zs j p l/\c2=Zs q s r):=fun g i j p l q s r c f=>by
  have C:=jq c (Zc #[Zi Zk i,Zs j p l,Zs q s r] 31);have aa:=c.size;refine (kA (M+1) (fun b=>W.heap.size<=b/\b<g.heap.size) 4 (qd M d) _ _ _ _ rfl (f.keep (fun b x=>Zh _ _ _ x.2) fun _ h=>h) (fun b x=>zE)).mono ?_;rintro e L ⟨u,c0,c1,c2,rfl,F⟩;have D:=C.trans (u.mono C.size);have ab:g.heap.size+1<=L.heap.size:=by have:=u.size;simpa using this
  refine⟨D,c0,c1,c2,rfl,jv X (z.trans (D.mono z.size)) (F.keep (fun _ _=>rfl) fun b x=>?_),F.shape⟩;rcases x with x|x;·exact .inr ⟨om,om,zS⟩
  ·have h1:g.heap.size+1<=b:=by have:=x.1;simpa using this
   exact .inr ⟨om,x.2⟩
 clear X z K N I R J t G T;go_in;go_wp2_with fail;rw[<- A];refine U.out.mono ?_;rintro e g ⟨c,i,j,p,l,q,s,r,rfl,f⟩;have B:=Lib.hid (V.out g i j p l q s r c f);have E:=c.block w.heap.size om;have y:W.heap[w.heap.size]?=Zo (Zc #[Zi Zk 6,Zi Zk Q,Zt d,Zs na P O,Zs ka kl kc] 40 (0,0)):=by rw[A,Zh _ _ _ zS];exact heap_alloc_new _ _
 obtain⟨z0,z1,z2,z3,z4⟩:=fZ (E.trans y);have H:w.heap.size<g.heap.size:=by have:=c.size;omega
 have z0:=fun o=>(World.cell?_of_block (a:=⟨w.heap.size,0,Zn⟩) (Zh g o _ H)).trans z0;clear c U V A f E y z1 z2 z3 z4;go_wp2_with fail;refine B.out.mono ?_;rintro e L ⟨u,d0,d1,d2,rfl,Y,i,j,p,l,q,s,r,rfl,rfl,rfl⟩;obtain⟨⟨r0,r1,r2⟩,f0,f1,f2⟩:=fY ((u.block (w.heap.size+1) om).trans HZ.out);have Z:=Lib.hid Y;clear u B Y;go_wp2_with fail;refine bodyPost_ret (v:=Zu #[Za #[Zi Zk i,Zs j p l,Zs q s r],Zi Zk 0]) (by simp[results,results77,go_sem,r0,r1,r2]) rfl ?_;exact Z.out
theorem G1 (M:Nat) (S:Nat->Prop) (T:Int) (U:ByteArray) (na ka:Option Addr) (d D kl kc:Nat) (v:Zv) (X:Zv) (w:Zw) (R:Bd S w) (e:List ByteArray) (ks:List (K (M+1))) (hn:fL S w e (Zs na d D)) (x:e.length=d) (ab:d<=1000) (L:∀ s,s∈e->s.size<=10000) (hr:gP S w (a8 S w (M+1)) ks X) :
  Calls prog 77 #[v,Za #[Zi Zk 24,Zi Zk T,Zt U,Zs na d D,Zs ka kl kc],X] w (iw S (M+2) (⟨5,e,ks⟩:Kd (K (M+1))) 0 w):=by
 obtain⟨W,C⟩:=il ((w.alloc (Zc #[Zi Zk 24,Zi Zk T,Zt U,Zs na d D,Zs ka kl kc] 40)).alloc (Zc #[Zi Zk 0,Zs Zn 0 0,Zs Zn 0 0] 31));have f:Bw w W:=by rw[C];exact (gA _ _).alloc zS _
 have ac:w.heap.size+2<=W.heap.size:=by rw[C];simp
 have Q:W.heap[w.heap.size+1]?=Zo (Zc #[Zi Zk 0,Zs Zn 0 0,Zs Zn 0 0] 31 (0,0)):=by have:=heap_alloc_new (w.alloc (Zc #[Zi Zk 24,Zi Zk T,Zt U,Zs na d D,Zs ka kl kc] 40)) (Zc #[Zi Zk 0,Zs Zn 0 0,Zs Zn 0 0] 31);rw[C];simpa using this
 have H:W.heap[w.heap.size]?=Zo (Zc #[Zi Zk 24,Zi Zk T,Zt U,Zs na d D,Zs ka kl kc] 40 (0,0)):=by rw[C,Zh _ _ _ zS];exact heap_alloc_new _ _
 obtain⟨z0,z1,z2,z3,z4⟩:=fZ H;have HZ:=a7 Q;obtain⟨z,B,A,rfl⟩:∃a l c,X=Zs a l c:=by obtain⟨ao,cap,hv,-⟩:=hr;exact⟨_,_,_,hv⟩
 have F:Hid (∀V,Bw W V->(e.map Value.string).length=d*1/\(∀u∈e.map Value.string,u.oneCell'=true)/\(0<d->∃ad,na=Zo ad/\∀j u,(e.map Value.string)[j]?=Zo u->V.cell? (ad.add j)=Zo u)):=fun V hV=>D4 x hn (a6 (f.trans (hV.mono f.size)) R);have p:Hid (∀(r:Zw)(g cap:Nat),Bw W r->r.ownsRow W.heap.size 9 1 (Zs (Zo ⟨g,0,Zn⟩) d cap) d (e.map Value.string)->iw S (M+2) (⟨5,e,ks⟩:Kd (K (M+1))) 0 w (Zr (Zu #[Za #[Zi Zk 5,Zs (Zo ⟨g,0,Zn⟩) d cap,Zs z B A],Zi Zk 0])) (((r.setCell ⟨w.heap.size+1,0,Zn⟩ (Zi Zk 5)).setCell ⟨w.heap.size+1,1,Zn⟩ (Zs (Zo ⟨g,0,Zn⟩) d cap)).setCell ⟨w.heap.size+1,2,Zn⟩ (Zs z B A))):=fun r g cap i b=>by
  have G:=f.trans (i.mono f.size);have hg:=fU b g rfl;refine jv R G ⟨rfl,rfl,?_,?_⟩
  ·have y:r.ownsRow W.heap.size 9 1 (Zs (Zo ⟨g,0,Zn⟩) d cap) e.length (e.map Value.string):=by rw[x];exact b
   exact kg y (by show e.length<=_;omega) L fun g' I=>.inr ⟨by have:=fU b g' I;omega,(fU b g' I).2,zS⟩
  ·exact hr.keepK (a6 G R) fun _ h=>.inl h
 obtain⟨aa,J,N,O,P⟩:=info_parts Tryz.info_strD;have m:Hid (_/\_/\_/\_):=⟨J,N,O,P⟩;have t:=(Below.refl W.heap.size W).alloc (Zl _) (Zc #[] 9);have n:=Lib.hid (F.out _ t);have E:=a7 t;have e3:=fun o:Obj=>(World.cell?_of_block (a:=⟨w.heap.size,3,Zn⟩) (Zh W o w.heap.size om)).trans z3;clear R f Q hn hr L J N O P H z0 z1 z2 z3 z4 F x t;go_in;go_upto_region 51 with fail;rw[<- C];clear C;go_wp2_with (at_builtin;refine zP _ rfl (.tmp 144) (.tmp 146) 23 rfl W.heap.size 9 aa _ 1 16 underlying23 m.out.1 m.out.2.1 m.out.2.2.1 m.out.2.2.2 rfl zC W.heap.size rfl (heap_alloc_new W _) (Zl _) na d D (e.map Value.string) rfl n.out.1 n.out.2.2 n.out.2.1 (by unfold maxLen;omega) om (W.heap.size+1) zS ?_;intro g cap r b k Y Z;refine Hid.out ?_);refine Lib.hid ?_;have i:Bw W r:=E.out.grown k zS (fun q hq=>by cases hq;omega);obtain⟨⟨r0,r1,r2⟩,f0,f1,f2⟩:=fY ((i.block (w.heap.size+1) om).trans HZ.out);have HF:=Lib.hid (p.out r g cap i b);clear i b k Y Z p E n e3;go_wp2_with fail;refine bodyPost_ret (v:=Zu #[Za #[Zi Zk 5,Zs (Zo ⟨g,0,Zn⟩) d cap,Zs z B A],Zi Zk 0]) (by simp[results,results77,go_sem,r0,r1,r2]) rfl ?_;exact HF.out
theorem Ai (M:Nat) (S:Nat->Prop) (r:Int) (s:ByteArray) (ka:Option Addr) (i k kl kc:Nat) (v:Zv) (w:Zw) (A:Bd S w) (p q:Nat) (nm:ByteArray) (E:p<w.heap.size) (D:0<i) (g:w.cell? ⟨p,q,Zn⟩=Zo (Zt nm)) (b off n cap:Nat) (C:b<w.heap.size) (H:0<n) (c:Option Addr) (f d:Nat) (g1:w.cell? ⟨b,off+1,Zn⟩=Zo (Zs c f d)) (z:∀ V,Bw w V->Calls prog 105 #[Zs c f d,Zt nm] V fun e o=>e=Zr (Zi Zk (-1))/\o=V) :
  Calls prog 77 #[v,Za #[Zi Zk 21,Zi Zk r,Zt s,Zs (Zo ⟨p,q,Zn⟩) i k,Zs ka kl kc],Zs (Zo ⟨b,off,Zn⟩) n cap] w (iw S (M+2) (zU:K (M+2)) 8 w):=by
 obtain⟨W,j⟩:=il ((w.alloc (Zc #[Zi Zk 21,Zi Zk r,Zt s,Zs (Zo ⟨p,q,Zn⟩) i k,Zs ka kl kc] 40)).alloc (Zc #[Zi Zk 0,Zs Zn 0 0,Zs Zn 0 0] 31));have a:Bw w W:=by rw[j];exact (gA _ _).alloc zS _
 have F:w.heap.size+2<=W.heap.size:=by rw[j];simp
 have m:W.heap[w.heap.size+1]?=Zo (Zc #[Zi Zk 0,Zs Zn 0 0,Zs Zn 0 0] 31 (0,0)):=by have:=heap_alloc_new (w.alloc (Zc #[Zi Zk 21,Zi Zk r,Zt s,Zs (Zo ⟨p,q,Zn⟩) i k,Zs ka kl kc] 40)) (Zc #[Zi Zk 0,Zs Zn 0 0,Zs Zn 0 0] 31);rw[j];simpa using this
 have l:W.heap[w.heap.size]?=Zo (Zc #[Zi Zk 21,Zi Zk r,Zt s,Zs (Zo ⟨p,q,Zn⟩) i k,Zs ka kl kc] 40 (0,0)):=by rw[j,Zh _ _ _ zS];exact heap_alloc_new _ _
 obtain⟨z0,G,z2,z3,z4⟩:=fZ l;have g:=kC a g E;have g1:=kC a g1 C;obtain⟨⟨u,x,y⟩,f0,f1,f2⟩:=fY m;have h:Bw w W.drew:=a.drew;have t:=Lib.hid (z W.drew h);have B:Hid (iw S (M+2) (zU:K (M+2)) 8 w (Zr (Zu #[Za #[Zi Zk 0,Zs Zn 0 0,Zs Zn 0 0],Zi Zk 8])) (((W.drew.setCell ⟨w.heap.size+1,0,Zn⟩ (Zi Zk 0)).setCell ⟨w.heap.size+1,1,Zn⟩ (Zs Zn 0 0)).setCell ⟨w.heap.size+1,2,Zn⟩ (Zs Zn 0 0))):=sW (iH h om) zC;have _:=A;clear z A a h l m G z2 z4;go_in;go_upto_region 42 with fail;rw[<- j];clear j;refine wp_region_held_drew (S:=(fun o=>o.cell? ⟨w.heap.size,3,Zn⟩=Zo (Zs (Zo ⟨p,q,Zn⟩) i k)/\o.cell? ⟨p,q,Zn⟩=Zo (Zt nm)/\o.cell? ⟨b,off+1,Zn⟩=Zo (Zs c f d))) zK (by exact⟨z3,g,g1⟩) (fun hHeld=>?_);refine tk 0 ?_;refine tk 1 ?_;refine tk 2 ?_;refine tk 3 ?_;refine tk 4 ?_;refine tk 5 ?_;refine tk 6 ?_;refine tk 7 ?_;refine js 8 fun K hK=>?_;go_simp;go_at_call 105;refine t.out.mono ?_;rintro e w1 ⟨rfl,rfl⟩;refine hK.out _ _ hHeld (fun hHeld=>?_);clear hK K;refine tk 9 ?_;refine wpAnyH_done zK ?_ _;go_simp;have z3:W.drew.cell? ⟨w.heap.size,3,Zn⟩=Zo (Zs (Zo ⟨p,q,Zn⟩) i k):=z3;have g:W.drew.cell? ⟨p,q,Zn⟩=Zo (Zt nm):=g;have g1:W.drew.cell? ⟨b,off+1,Zn⟩=Zo (Zs c f d):=g1;have z0:W.drew.cell? ⟨w.heap.size,0,Zn⟩=Zo (Zi Zk 21):=z0;have u:W.drew.cell? ⟨w.heap.size+1,0,Zn⟩=Zo (Zi Zk 0):=u;have x:W.drew.cell? ⟨w.heap.size+1,1,Zn⟩=Zo (Zs Zn 0 0):=x;have y:W.drew.cell? ⟨w.heap.size+1,2,Zn⟩=Zo (Zs Zn 0 0):=y;have f0:W.drew.frozen? ⟨w.heap.size+1,0,Zn⟩=false:=f0;have f1:W.drew.frozen? ⟨w.heap.size+1,1,Zn⟩=false:=f1;have f2:W.drew.frozen? ⟨w.heap.size+1,2,Zn⟩=false:=f2;generalize W.drew=Wd at *;go_wp2_with fail;refine bodyPost_ret (v:=Zu #[Za #[Zi Zk 0,Zs Zn 0 0,Zs Zn 0 0],Zi Zk 8]) (by simp[results,results77,go_sem,u,x,y]) rfl ?_;exact B.out
theorem Aj (M:Nat) (S:Nat->Prop) (r:Int) (s:ByteArray) (ka:Option Addr) (i k kl kc:Nat) (v:Zv) (w:Zw) (A:Bd S w) (p q:Nat) (nm:ByteArray) (E:p<w.heap.size) (D:0<i) (g:w.cell? ⟨p,q,Zn⟩=Zo (Zt nm)) (b off n cap:Nat) (C:b<w.heap.size) (H:0<n) (c:Option Addr) (f d:Nat) (g1:w.cell? ⟨b,off+1,Zn⟩=Zo (Zs c f d)) (z:∀ V,Bw w V->Calls prog 105 #[Zs c f d,Zt nm] V fun e o=>e=Zr (Zi Zk (-1))/\o=V) :
  Calls prog 77 #[v,Za #[Zi Zk 23,Zi Zk r,Zt s,Zs (Zo ⟨p,q,Zn⟩) i k,Zs ka kl kc],Zs (Zo ⟨b,off,Zn⟩) n cap] w (iw S (M+2) (zU:K (M+2)) 8 w):=by
 obtain⟨W,j⟩:=il ((w.alloc (Zc #[Zi Zk 23,Zi Zk r,Zt s,Zs (Zo ⟨p,q,Zn⟩) i k,Zs ka kl kc] 40)).alloc (Zc #[Zi Zk 0,Zs Zn 0 0,Zs Zn 0 0] 31));have a:Bw w W:=by rw[j];exact (gA _ _).alloc zS _
 have F:w.heap.size+2<=W.heap.size:=by rw[j];simp
 have m:W.heap[w.heap.size+1]?=Zo (Zc #[Zi Zk 0,Zs Zn 0 0,Zs Zn 0 0] 31 (0,0)):=by have:=heap_alloc_new (w.alloc (Zc #[Zi Zk 23,Zi Zk r,Zt s,Zs (Zo ⟨p,q,Zn⟩) i k,Zs ka kl kc] 40)) (Zc #[Zi Zk 0,Zs Zn 0 0,Zs Zn 0 0] 31);rw[j];simpa using this
 have l:W.heap[w.heap.size]?=Zo (Zc #[Zi Zk 23,Zi Zk r,Zt s,Zs (Zo ⟨p,q,Zn⟩) i k,Zs ka kl kc] 40 (0,0)):=by rw[j,Zh _ _ _ zS];exact heap_alloc_new _ _
 obtain⟨z0,G,z2,z3,z4⟩:=fZ l;have g:=kC a g E;have g1:=kC a g1 C;obtain⟨⟨u,x,y⟩,f0,f1,f2⟩:=fY m;have h:Bw w W.drew:=a.drew;have t:=Lib.hid (z W.drew h);have B:Hid (iw S (M+2) (zU:K (M+2)) 8 w (Zr (Zu #[Za #[Zi Zk 0,Zs Zn 0 0,Zs Zn 0 0],Zi Zk 8])) (((W.drew.setCell ⟨w.heap.size+1,0,Zn⟩ (Zi Zk 0)).setCell ⟨w.heap.size+1,1,Zn⟩ (Zs Zn 0 0)).setCell ⟨w.heap.size+1,2,Zn⟩ (Zs Zn 0 0))):=sW (iH h om) zC;have _:=A;clear z A a h l m G z2 z4;go_in;go_upto_region 42 with fail;rw[<- j];clear j;refine wp_region_held_drew (S:=(fun o=>o.cell? ⟨w.heap.size,3,Zn⟩=Zo (Zs (Zo ⟨p,q,Zn⟩) i k)/\o.cell? ⟨p,q,Zn⟩=Zo (Zt nm)/\o.cell? ⟨b,off+1,Zn⟩=Zo (Zs c f d))) zK (by exact⟨z3,g,g1⟩) (fun hHeld=>?_);refine tk 0 ?_;refine tk 1 ?_;refine tk 2 ?_;refine tk 3 ?_;refine tk 4 ?_;refine tk 5 ?_;refine tk 6 ?_;refine tk 7 ?_;refine js 8 fun K hK=>?_;go_simp;go_at_call 105;refine t.out.mono ?_;rintro e w1 ⟨rfl,rfl⟩;refine hK.out _ _ hHeld (fun hHeld=>?_);clear hK K;refine tk 9 ?_;refine wpAnyH_done zK ?_ _;go_simp;have z3:W.drew.cell? ⟨w.heap.size,3,Zn⟩=Zo (Zs (Zo ⟨p,q,Zn⟩) i k):=z3;have g:W.drew.cell? ⟨p,q,Zn⟩=Zo (Zt nm):=g;have g1:W.drew.cell? ⟨b,off+1,Zn⟩=Zo (Zs c f d):=g1;have z0:W.drew.cell? ⟨w.heap.size,0,Zn⟩=Zo (Zi Zk 23):=z0;have u:W.drew.cell? ⟨w.heap.size+1,0,Zn⟩=Zo (Zi Zk 0):=u;have x:W.drew.cell? ⟨w.heap.size+1,1,Zn⟩=Zo (Zs Zn 0 0):=x;have y:W.drew.cell? ⟨w.heap.size+1,2,Zn⟩=Zo (Zs Zn 0 0):=y;have f0:W.drew.frozen? ⟨w.heap.size+1,0,Zn⟩=false:=f0;have f1:W.drew.frozen? ⟨w.heap.size+1,1,Zn⟩=false:=f1;have f2:W.drew.frozen? ⟨w.heap.size+1,2,Zn⟩=false:=f2;generalize W.drew=Wd at *;go_wp2_with fail;refine bodyPost_ret (v:=Zu #[Za #[Zi Zk 0,Zs Zn 0 0,Zs Zn 0 0],Zi Zk 8]) (by simp[results,results77,go_sem,u,x,y]) rfl ?_;exact B.out
theorem GY (M:Nat) (S:Nat->Prop) (J:Int) (N:ByteArray) (ka:Option Addr) (r t kl kc:Nat) (v:Zv) (w:Zw) (P:Bd S w) (p q:Nat) (nm:ByteArray) (hp:p<w.heap.size) (ab:0<r) (g:w.cell? ⟨p,q,Zn⟩=Zo (Zt nm)) (b off n cap:Nat) (X:b<w.heap.size) (hn:0<n) (f:Option Addr) (l j:Nat) (g1:w.cell? ⟨b,off+1,Zn⟩=Zo (Zs f l j)) (i:Nat) (U:∀ V,Bw w V->Calls prog 105 #[Zs f l j,Zt nm] V fun e F=>e=Zr (Zi Zk (i:Int))/\F=V) (c m n3 c3:Nat) (o:c<w.heap.size) (aa:(i:Int)<(n3:Int)) (k3:w.cell? ⟨b,off+2,Zn⟩=Zo (Zs (Zo ⟨c,m,Zn⟩) n3 c3)) (z:Int) (A u:Option Addr) (C B y x:Nat) (k:K (M+1)) (Y:a8 S w (M+1) k (Zi Zk z) (Zs A C B) (Zs u y x)) (G:w.cell? ⟨c,m+i*3,Zn⟩=Zo (Zi Zk z)) (H:w.cell? ⟨c,m+i*3+1,Zn⟩=Zo (Zs A C B)) (I:w.cell? ⟨c,m+i*3+2,Zn⟩=Zo (Zs u y x)) :
  Calls prog 77 #[v,Za #[Zi Zk 21,Zi Zk J,Zt N,Zs (Zo ⟨p,q,Zn⟩) r t,Zs ka kl kc],Zs (Zo ⟨b,off,Zn⟩) n cap] w (iw S (M+2) (pq k) 0 w):=by
 obtain⟨W,s⟩:=il ((w.alloc (Zc #[Zi Zk 21,Zi Zk J,Zt N,Zs (Zo ⟨p,q,Zn⟩) r t,Zs ka kl kc] 40)).alloc (Zc #[Zi Zk 0,Zs Zn 0 0,Zs Zn 0 0] 31));have a:Bw w W:=by rw[s];exact (gA _ _).alloc zS _
 have ac:w.heap.size+2<=W.heap.size:=by rw[s];simp
 have E:W.heap[w.heap.size+1]?=Zo (Zc #[Zi Zk 0,Zs Zn 0 0,Zs Zn 0 0] 31 (0,0)):=by have:=heap_alloc_new (w.alloc (Zc #[Zi Zk 21,Zi Zk J,Zt N,Zs (Zo ⟨p,q,Zn⟩) r t,Zs ka kl kc] 40)) (Zc #[Zi Zk 0,Zs Zn 0 0,Zs Zn 0 0] 31);rw[s];simpa using this
 have D:W.heap[w.heap.size]?=Zo (Zc #[Zi Zk 21,Zi Zk J,Zt N,Zs (Zo ⟨p,q,Zn⟩) r t,Zs ka kl kc] 40 (0,0)):=by rw[s,Zh _ _ _ zS];exact heap_alloc_new _ _
 obtain⟨z0,z1,z2,z3,z4⟩:=fZ D;have g:=kC a g hp;have g1:=kC a g1 X;have k3:=kC a k3 X;have G:=kC a G o;have H:=kC a H o;have I:=kC a I o;obtain⟨⟨Q,R,T⟩,f0,f1,f2⟩:=fY E;have d:Bw w W.drew:=a.drew;have O:=Lib.hid (U W.drew d);have Z:Hid (iw S (M+2) (pq k) 0 w (Zr (Zu #[Za #[Zi Zk z,Zs A C B,Zs u y x],Zi Zk 0])) (((W.drew.setCell ⟨w.heap.size+1,0,Zn⟩ (Zi Zk z)).setCell ⟨w.heap.size+1,1,Zn⟩ (Zs A C B)).setCell ⟨w.heap.size+1,2,Zn⟩ (Zs u y x))):=jv P d ((Y.cp (L:=M+1) om).keep (a6 d P) fun _ h=>.inl h);clear Y;clear U P a d D E z1 z2 z4;go_in;go_upto_region 42 with fail;rw[<- s];clear s;refine wp_region_held_drew (S:=(fun F=>F.cell? ⟨w.heap.size,3,Zn⟩=Zo (Zs (Zo ⟨p,q,Zn⟩) r t)/\F.cell? ⟨p,q,Zn⟩=Zo (Zt nm)/\F.cell? ⟨b,off+1,Zn⟩=Zo (Zs f l j))) zK (by exact⟨z3,g,g1⟩) (fun hHeld=>?_);refine tk 0 ?_;refine tk 1 ?_;refine tk 2 ?_;refine tk 3 ?_;refine tk 4 ?_;refine tk 5 ?_;refine tk 6 ?_;refine tk 7 ?_;refine js 8 fun K hK=>?_;go_simp;go_at_call 105;refine O.out.mono ?_;rintro e w1 ⟨rfl,rfl⟩;refine hK.out _ _ hHeld (fun hHeld=>?_);clear hK K;refine tk 9 ?_;refine wpAnyH_done zK ?_ _;go_simp;have z3:W.drew.cell? ⟨w.heap.size,3,Zn⟩=Zo (Zs (Zo ⟨p,q,Zn⟩) r t):=z3;have g:W.drew.cell? ⟨p,q,Zn⟩=Zo (Zt nm):=g;have g1:W.drew.cell? ⟨b,off+1,Zn⟩=Zo (Zs f l j):=g1;have z0:W.drew.cell? ⟨w.heap.size,0,Zn⟩=Zo (Zi Zk 21):=z0;have Q:W.drew.cell? ⟨w.heap.size+1,0,Zn⟩=Zo (Zi Zk 0):=Q;have R:W.drew.cell? ⟨w.heap.size+1,1,Zn⟩=Zo (Zs Zn 0 0):=R;have T:W.drew.cell? ⟨w.heap.size+1,2,Zn⟩=Zo (Zs Zn 0 0):=T;have f0:W.drew.frozen? ⟨w.heap.size+1,0,Zn⟩=false:=f0;have f1:W.drew.frozen? ⟨w.heap.size+1,1,Zn⟩=false:=f1;have f2:W.drew.frozen? ⟨w.heap.size+1,2,Zn⟩=false:=f2;have k3:W.drew.cell? ⟨b,off+2,Zn⟩=Zo (Zs (Zo ⟨c,m,Zn⟩) n3 c3):=k3;have G:W.drew.cell? ⟨c,m+i*3,Zn⟩=Zo (Zi Zk z):=G;have H:W.drew.cell? ⟨c,m+i*3+1,Zn⟩=Zo (Zs A C B):=H;have I:W.drew.cell? ⟨c,m+i*3+2,Zn⟩=Zo (Zs u y x):=I;generalize W.drew=Wd at *;go_wp2_with fail;refine bodyPost_ret (v:=Zu #[Za #[Zi Zk z,Zs A C B,Zs u y x],Zi Zk 0]) (by simp[results,results77,go_sem,Q,R,T]) rfl ?_;exact Z.out
theorem G0 (M:Nat) (S:Nat->Prop) (O:Int) (P:ByteArray) (ka:Option Addr) (r t kl kc:Nat) (v:Zv) (w:Zw) (hB:Bd S w) (p q:Nat) (nm:ByteArray) (hp:p<w.heap.size) (ac:0<r) (g:w.cell? ⟨p,q,Zn⟩=Zo (Zt nm)) (b off n cap:Nat) (U:b<w.heap.size) (hn:0<n) (f:Option Addr) (j h:Nat) (g1:w.cell? ⟨b,off+1,Zn⟩=Zo (Zs f j h)) (i:Nat) (Z:∀ V,Bw w V->Calls prog 105 #[Zs f j h,Zt nm] V fun e c=>e=Zr (Zi Zk (i:Int))/\c=V) (z:Int) (k:Option Addr) (m l:Nat) (g0:w.cell? ⟨b,off,Zn⟩=Zo (Zi Zk z)) (g2:w.cell? ⟨b,off+2,Zn⟩=Zo (Zs k m l)) (Y:K (M+2)) (u:∀ V,Bw w V->Calls prog 106 #[Za #[Zi Zk z,Zs f j h,Zs k m l],Zt nm] V (rg S (M+2) Y V)) :
  Calls prog 77 #[v,Za #[Zi Zk 23,Zi Zk O,Zt P,Zs (Zo ⟨p,q,Zn⟩) r t,Zs ka kl kc],Zs (Zo ⟨b,off,Zn⟩) n cap] w (iw S (M+2) Y 0 w):=by
 obtain⟨W,H⟩:=il ((w.alloc (Zc #[Zi Zk 23,Zi Zk O,Zt P,Zs (Zo ⟨p,q,Zn⟩) r t,Zs ka kl kc] 40)).alloc (Zc #[Zi Zk 0,Zs Zn 0 0,Zs Zn 0 0] 31));have d:Bw w W:=by rw[H];exact (gA _ _).alloc zS _
 have X:w.heap.size+2<=W.heap.size:=by rw[H];simp
 have y:W.heap[w.heap.size+1]?=Zo (Zc #[Zi Zk 0,Zs Zn 0 0,Zs Zn 0 0] 31 (0,0)):=by have:=heap_alloc_new (w.alloc (Zc #[Zi Zk 23,Zi Zk O,Zt P,Zs (Zo ⟨p,q,Zn⟩) r t,Zs ka kl kc] 40)) (Zc #[Zi Zk 0,Zs Zn 0 0,Zs Zn 0 0] 31);rw[H];simpa using this
 have L:W.heap[w.heap.size]?=Zo (Zc #[Zi Zk 23,Zi Zk O,Zt P,Zs (Zo ⟨p,q,Zn⟩) r t,Zs ka kl kc] 40 (0,0)):=by rw[H,Zh _ _ _ zS];exact heap_alloc_new _ _
 obtain⟨z0,z1,z2,z3,z4⟩:=fZ L;have g:=kC d g hp;have g1:=kC d g1 U;have g0:=kC d g0 U;have g2:=kC d g2 U;obtain⟨⟨r0,r1,r2⟩,f0,f1,f2⟩:=fY y;have x:Bw w W.drew:=d.drew;have Q:=Lib.hid (Z W.drew x);have HZ:=a7 y;have R:Hid (Calls prog 106 #[Za #[Zi Zk z,Zs f j h,Zs k m l],Zt nm] W.drew.drew fun e s=>Bw W s/\∃A B D C E G F,e=Zr (Za #[Zi Zk A,Zs B D C,Zs E G F])/\iw S (M+2) Y 0 w (Zr (Zu #[Za #[Zi Zk A,Zs B D C,Zs E G F],Zi Zk 0])) (((s.setCell ⟨w.heap.size+1,0,Zn⟩ (Zi Zk A)).setCell ⟨w.heap.size+1,1,Zn⟩ (Zs B D C)).setCell ⟨w.heap.size+1,2,Zn⟩ (Zs E G F))):=by refine (u W.drew.drew x.drew).mono ?_;rintro e s ⟨o,c0,c1,c2,rfl,N⟩;have J:Bw W s:=(((Below.refl W.heap.size W).drew).drew).trans o;obtain⟨A,B,D,C,E,G,F,rfl,rfl,rfl⟩:=N.shape;exact⟨J,A,B,D,C,E,G,F,rfl,jv hB (d.trans (J.mono d.size)) (oT (V:=W.drew.drew) X N)⟩
 have aa:=a7 d;clear Z hB d x L y z1 z2 z4 u;go_in;go_upto_region 42 with fail;rw[<- H];clear H;refine wp_region_held_drew (S:=(fun c=>c.cell? ⟨w.heap.size,3,Zn⟩=Zo (Zs (Zo ⟨p,q,Zn⟩) r t)/\c.cell? ⟨p,q,Zn⟩=Zo (Zt nm)/\c.cell? ⟨b,off+1,Zn⟩=Zo (Zs f j h))) zK (by exact⟨z3,g,g1⟩) (fun hHeld=>?_);refine tk 0 ?_;refine tk 1 ?_;refine tk 2 ?_;refine tk 3 ?_;refine tk 4 ?_;refine tk 5 ?_;refine tk 6 ?_;refine tk 7 ?_;refine js 8 fun K hK=>?_;go_simp;go_at_call 105;refine Q.out.mono ?_;rintro e w1 ⟨rfl,rfl⟩;refine hK.out _ _ hHeld (fun hHeld=>?_);clear hK K;refine tk 9 ?_;refine wpAnyH_done zK ?_ _;go_simp;have z3:W.drew.cell? ⟨w.heap.size,3,Zn⟩=Zo (Zs (Zo ⟨p,q,Zn⟩) r t):=z3;have g:W.drew.cell? ⟨p,q,Zn⟩=Zo (Zt nm):=g;have g1:W.drew.cell? ⟨b,off+1,Zn⟩=Zo (Zs f j h):=g1;have z0:W.drew.cell? ⟨w.heap.size,0,Zn⟩=Zo (Zi Zk 23):=z0;have r0:W.drew.cell? ⟨w.heap.size+1,0,Zn⟩=Zo (Zi Zk 0):=r0;have r1:W.drew.cell? ⟨w.heap.size+1,1,Zn⟩=Zo (Zs Zn 0 0):=r1;have r2:W.drew.cell? ⟨w.heap.size+1,2,Zn⟩=Zo (Zs Zn 0 0):=r2;have f0:W.drew.frozen? ⟨w.heap.size+1,0,Zn⟩=false:=f0;have f1:W.drew.frozen? ⟨w.heap.size+1,1,Zn⟩=false:=f1;have f2:W.drew.frozen? ⟨w.heap.size+1,2,Zn⟩=false:=f2;have g0:W.drew.cell? ⟨b,off,Zn⟩=Zo (Zi Zk z):=g0;have g2:W.drew.cell? ⟨b,off+2,Zn⟩=Zo (Zs k m l):=g2;go_upto_region 47 with fail;have ad:p<W.heap.size:=om;have ab:b<W.heap.size:=om;have T:Hid (∀s,Bw W s->(fun (c:Zw)=>c.cell? ⟨w.heap.size,3,Zn⟩=Zo (Zs (Zo ⟨p,q,Zn⟩) r t)/\c.cell? ⟨p,q,Zn⟩=Zo (Zt nm)/\c.cell? ⟨b,off,Zn⟩=Zo (Zi Zk z)/\c.cell? ⟨b,off+1,Zn⟩=Zo (Zs f j h)/\c.cell? ⟨b,off+2,Zn⟩=Zo (Zs k m l)) s):=fun s I=>⟨kC I z3 om,kC I g om,kC I g0 om,kC I g1 om,kC I g2 om⟩;refine wp_region_held_drew (S:=(fun c=>c.cell? ⟨w.heap.size,3,Zn⟩=Zo (Zs (Zo ⟨p,q,Zn⟩) r t)/\c.cell? ⟨p,q,Zn⟩=Zo (Zt nm)/\c.cell? ⟨b,off,Zn⟩=Zo (Zi Zk z)/\c.cell? ⟨b,off+1,Zn⟩=Zo (Zs f j h)/\c.cell? ⟨b,off+2,Zn⟩=Zo (Zs k m l))) zK (by exact⟨z3,g,g0,g1,g2⟩) (fun hHeld=>?_);refine tk 0 ?_;refine tk 1 ?_;refine tk 2 ?_;refine tk 3 ?_;refine tk 4 ?_;refine tk 5 ?_;refine tk 6 ?_;refine js 7 fun K hK=>?_;go_simp;go_at_call 106;refine R.out.mono ?_;rintro e s ⟨o,A,B,D,C,E,G,F,rfl,hF⟩;refine hK.out _ _ (T.out _ o) (fun hHeld=>?_);clear hK K;obtain⟨⟨q0,q1,q2⟩,e0,e1,e2⟩:=fY ((o.block (w.heap.size+1) om).trans HZ.out);have HF:=Lib.hid hF;have ae:=o.size;have HH:Hid (∀v0 v1 v2,(fun (c:Zw)=>c.cell? ⟨w.heap.size,3,Zn⟩=Zo (Zs (Zo ⟨p,q,Zn⟩) r t)/\c.cell? ⟨p,q,Zn⟩=Zo (Zt nm)/\c.cell? ⟨b,off,Zn⟩=Zo (Zi Zk z)/\c.cell? ⟨b,off+1,Zn⟩=Zo (Zs f j h)/\c.cell? ⟨b,off+2,Zn⟩=Zo (Zs k m l)) (((s.setCell ⟨w.heap.size+1,0,Zn⟩ v0).setCell ⟨w.heap.size+1,1,Zn⟩ v1).setCell ⟨w.heap.size+1,2,Zn⟩ v2)):=fun v0 v1 v2=>⟨(World.cell?_of_block (a:=⟨w.heap.size,3,Zn⟩) (gT (by show w.heap.size≠_;omega))).trans hHeld.1,(World.cell?_of_block (a:=⟨p,q,Zn⟩) (gT (by show p≠_;omega))).trans hHeld.2.1,(World.cell?_of_block (a:=⟨b,off,Zn⟩) (gT (by show b≠_;omega))).trans hHeld.2.2.1,(World.cell?_of_block (a:=⟨b,off+1,Zn⟩) (gT (by show b≠_;omega))).trans hHeld.2.2.2.1,(World.cell?_of_block (a:=⟨b,off+2,Zn⟩) (gT (by show b≠_;omega))).trans hHeld.2.2.2.2⟩;clear hF o;refine js 8 fun K hK=>?_;go_simp;refine hK.out _ _ (HH.out _ _ _) (fun hHeld=>?_);clear hK K;refine tk 9 ?_;refine wpAnyH_done zK ?_ _;go_simp;go_wp2_with fail;refine bodyPost_ret (v:=Zu #[Za #[Zi Zk A,Zs B D C,Zs E G F],Zi Zk 0]) (by simp[results,results77,go_sem,q0,q1,q2]) rfl ?_;exact HF.out
theorem GZ (M:Nat) (S:Nat->Prop) (x1:Int) (x2:ByteArray) (ka:Option Addr) (t u kl kc:Nat) (v:Zv) (w:Zw) (hB:Bd S w) (p q:Nat) (nm:ByteArray) (hp:p<w.heap.size) (ah:0<t) (g:w.cell? ⟨p,q,Zn⟩=Zo (Zt nm)) (b off n cap:Nat) (N:b<w.heap.size) (hn:0<n) (ag:(1:Int)<(n:Int)) (O:Int) (k h:Option Addr) (m l j i:Nat) (g0:w.cell? ⟨b,off,Zn⟩=Zo (Zi Zk O)) (g1:w.cell? ⟨b,off+1,Zn⟩=Zo (Zs k m l)) (g2:w.cell? ⟨b,off+2,Zn⟩=Zo (Zs h j i)) (a0:Int) (E H:Option Addr) (G F J I:Nat) (X:w.cell? ⟨b,off+3,Zn⟩=Zo (Zi Zk a0)) (Y:w.cell? ⟨b,off+3+1,Zn⟩=Zo (Zs E G F)) (Z:w.cell? ⟨b,off+3+2,Zn⟩=Zo (Zs H J I)) (kk:K (M+2)) (r:∀ V,Bw w V->Calls prog 107 #[Za #[Zi Zk O,Zs k m l,Zs h j i],Zt nm,Za #[Zi Zk a0,Zs E G F,Zs H J I]] V (rg S (M+2) kk V)) :
  Calls prog 77 #[v,Za #[Zi Zk 22,Zi Zk x1,Zt x2,Zs (Zo ⟨p,q,Zn⟩) t u,Zs ka kl kc],Zs (Zo ⟨b,off,Zn⟩) n cap] w (iw S (M+2) kk 0 w):=by
 obtain⟨W,L⟩:=il ((w.alloc (Zc #[Zi Zk 22,Zi Zk x1,Zt x2,Zs (Zo ⟨p,q,Zn⟩) t u,Zs ka kl kc] 40)).alloc (Zc #[Zi Zk 0,Zs Zn 0 0,Zs Zn 0 0] 31));have d:Bw w W:=by rw[L];exact (gA _ _).alloc zS _
 have ae:w.heap.size+2<=W.heap.size:=by rw[L];simp
 have U:W.heap[w.heap.size+1]?=Zo (Zc #[Zi Zk 0,Zs Zn 0 0,Zs Zn 0 0] 31 (0,0)):=by have:=heap_alloc_new (w.alloc (Zc #[Zi Zk 22,Zi Zk x1,Zt x2,Zs (Zo ⟨p,q,Zn⟩) t u,Zs ka kl kc] 40)) (Zc #[Zi Zk 0,Zs Zn 0 0,Zs Zn 0 0] 31);rw[L];simpa using this
 have R:W.heap[w.heap.size]?=Zo (Zc #[Zi Zk 22,Zi Zk x1,Zt x2,Zs (Zo ⟨p,q,Zn⟩) t u,Zs ka kl kc] 40 (0,0)):=by rw[L,Zh _ _ _ zS];exact heap_alloc_new _ _
 obtain⟨z0,z1,z2,z3,z4⟩:=fZ R;have g:=kC d g hp;have g0:=kC d g0 N;have g1:=kC d g1 N;have g2:=kC d g2 N;have X:=kC d X N;have Y:=kC d Y N;have Z:=kC d Z N;have Q:Bw w W.drew:=d.drew;have HZ:=a7 U;have ab:Hid (Calls prog 107 #[Za #[Zi Zk O,Zs k m l,Zs h j i],Zt nm,Za #[Zi Zk a0,Zs E G F,Zs H J I]] W.drew fun e o=>Bw W o/\∃x y A z B D C,e=Zr (Za #[Zi Zk x,Zs y A z,Zs B D C])/\iw S (M+2) kk 0 w (Zr (Zu #[Za #[Zi Zk x,Zs y A z,Zs B D C],Zi Zk 0])) (((o.setCell ⟨w.heap.size+1,0,Zn⟩ (Zi Zk x)).setCell ⟨w.heap.size+1,1,Zn⟩ (Zs y A z)).setCell ⟨w.heap.size+1,2,Zn⟩ (Zs B D C))):=by refine (r W.drew Q).mono ?_;rintro e o ⟨f,c0,c1,c2,rfl,T⟩;have P:Bw W o:=((Below.refl W.heap.size W).drew).trans f;obtain⟨x,y,A,z,B,D,C,rfl,rfl,rfl⟩:=T.shape;exact⟨P,x,y,A,z,B,D,C,rfl,jv hB (d.trans (P.mono d.size)) (oT (V:=W.drew) ae T)⟩
 clear r hB d Q R U z0 z1 z2 z4;go_in;go_upto_region 49 with fail;rw[<- L];clear L;have ai:p<W.heap.size:=om;have af:b<W.heap.size:=om;have ad:Hid (∀o,Bw W o->(fun (c:Zw)=>c.cell? ⟨w.heap.size,3,Zn⟩=Zo (Zs (Zo ⟨p,q,Zn⟩) t u)/\c.cell? ⟨p,q,Zn⟩=Zo (Zt nm)/\c.cell? ⟨b,off,Zn⟩=Zo (Zi Zk O)/\c.cell? ⟨b,off+1,Zn⟩=Zo (Zs k m l)/\c.cell? ⟨b,off+2,Zn⟩=Zo (Zs h j i)/\c.cell? ⟨b,off+3,Zn⟩=Zo (Zi Zk a0)/\c.cell? ⟨b,off+3+1,Zn⟩=Zo (Zs E G F)/\c.cell? ⟨b,off+3+2,Zn⟩=Zo (Zs H J I)) o):=fun o s=>⟨kC s z3 om,kC s g om,kC s g0 om,kC s g1 om,kC s g2 om,kC s X om,kC s Y om,kC s Z om⟩;refine wp_region_held_drew (S:=(fun c=>c.cell? ⟨w.heap.size,3,Zn⟩=Zo (Zs (Zo ⟨p,q,Zn⟩) t u)/\c.cell? ⟨p,q,Zn⟩=Zo (Zt nm)/\c.cell? ⟨b,off,Zn⟩=Zo (Zi Zk O)/\c.cell? ⟨b,off+1,Zn⟩=Zo (Zs k m l)/\c.cell? ⟨b,off+2,Zn⟩=Zo (Zs h j i)/\c.cell? ⟨b,off+3,Zn⟩=Zo (Zi Zk a0)/\c.cell? ⟨b,off+3+1,Zn⟩=Zo (Zs E G F)/\c.cell? ⟨b,off+3+2,Zn⟩=Zo (Zs H J I))) zK (by exact⟨z3,g,g0,g1,g2,X,Y,Z⟩) (fun hHeld=>?_);refine tk 0 ?_;refine tk 1 ?_;refine tk 2 ?_;refine tk 3 ?_;refine tk 4 ?_;refine tk 5 ?_;refine tk 6 ?_;refine tk 7 ?_;refine tk 8 ?_;refine tk 9 ?_;refine js 10 fun K hK=>?_;go_simp;go_at_call 107;refine ab.out.mono ?_;rintro e o ⟨f,x,y,A,z,B,D,C,rfl,hF⟩;refine hK.out _ _ (ad.out _ f) (fun hHeld=>?_);clear hK K;obtain⟨⟨q0,q1,q2⟩,m0,m1,m2⟩:=fY ((f.block (w.heap.size+1) om).trans HZ.out);have HF:=Lib.hid hF;have aj:=f.size;have HH:Hid (∀v0 v1 v2,(fun (c:Zw)=>c.cell? ⟨w.heap.size,3,Zn⟩=Zo (Zs (Zo ⟨p,q,Zn⟩) t u)/\c.cell? ⟨p,q,Zn⟩=Zo (Zt nm)/\c.cell? ⟨b,off,Zn⟩=Zo (Zi Zk O)/\c.cell? ⟨b,off+1,Zn⟩=Zo (Zs k m l)/\c.cell? ⟨b,off+2,Zn⟩=Zo (Zs h j i)/\c.cell? ⟨b,off+3,Zn⟩=Zo (Zi Zk a0)/\c.cell? ⟨b,off+3+1,Zn⟩=Zo (Zs E G F)/\c.cell? ⟨b,off+3+2,Zn⟩=Zo (Zs H J I)) (((o.setCell ⟨w.heap.size+1,0,Zn⟩ v0).setCell ⟨w.heap.size+1,1,Zn⟩ v1).setCell ⟨w.heap.size+1,2,Zn⟩ v2)):=fun v0 v1 v2=>⟨(World.cell?_of_block (a:=⟨w.heap.size,3,Zn⟩) (gT (by show w.heap.size≠_;omega))).trans hHeld.1,(World.cell?_of_block (a:=⟨p,q,Zn⟩) (gT (by show p≠_;omega))).trans hHeld.2.1,(World.cell?_of_block (a:=⟨b,off,Zn⟩) (gT (by show b≠_;omega))).trans hHeld.2.2.1,(World.cell?_of_block (a:=⟨b,off+1,Zn⟩) (gT (by show b≠_;omega))).trans hHeld.2.2.2.1,(World.cell?_of_block (a:=⟨b,off+2,Zn⟩) (gT (by show b≠_;omega))).trans hHeld.2.2.2.2.1,(World.cell?_of_block (a:=⟨b,off+3,Zn⟩) (gT (by show b≠_;omega))).trans hHeld.2.2.2.2.2.1,(World.cell?_of_block (a:=⟨b,off+3+1,Zn⟩) (gT (by show b≠_;omega))).trans hHeld.2.2.2.2.2.2.1,(World.cell?_of_block (a:=⟨b,off+3+2,Zn⟩) (gT (by show b≠_;omega))).trans hHeld.2.2.2.2.2.2.2⟩;clear hF f;refine js 11 fun K hK=>?_;go_simp;refine hK.out _ _ (HH.out _ _ _) (fun hHeld=>?_);clear hK K;refine tk 12 ?_;refine wpAnyH_done zK ?_ _;go_simp;go_wp2_with fail;refine bodyPost_ret (v:=Zu #[Za #[Zi Zk x,Zs y A z,Zs B D C],Zi Zk 0]) (by simp[results,results77,go_sem,q0,q1,q2]) rfl ?_;exact HF.out
theorem wR (M m:Nat) (hM:5<=M) (S:Nat->Prop) (t:T (m+1)) (l:List (ByteArray × K (M+1))) (a:List (K (M+1))) (c0 c1 c2 c3 c4 v G:Zv) (w:Zw) (ht:fT S w (m+1) t c0 c1 c2 c3 c4) (hv:jf S w (M+1) l v) (hr:gP S w (a8 S w (M+1)) a G) (c:Bd S w) (hl:l.length<=3000000) (aG:∀ x,x∈a->gG (M+1) x=true) (ay:zW (Nd.sort t) (Nd.names t) (Nd.text t) a) :
  Calls prog 77 #[v,Za #[c0,c1,c2,c3,c4],G] w (iw S (M+2) (fV (Nd.sort t) (Nd.names t) (Nd.text t) l.reverse a).1 (fV (Nd.sort t) (Nd.names t) (Nd.text t) l.reverse a).2 w):=by
 obtain⟨rfl,rfl,rfl,hs,aN,aO,h3,h4,⟨na,nl,nc,rfl,aK⟩,⟨ka,kl,kc,rfl,aL⟩⟩:=ht;obtain⟨_,_,aD,-⟩:=id h3;cases aD
 have HN:1<=(Nd.names t).length->∃p q,na=Zo ⟨p,q,Zn⟩/\p<w.heap.size/\w.cell? ⟨p,q,Zn⟩=Zo (Zt ((Nd.names t).getD 0 Ze)):=fun h=>by
  obtain⟨p,q,cap,aB,hp,aA⟩:=kj h3 c om;cases aB
  have:=(aA 0 om).1;exact⟨p,q,rfl,hp,by rw[gn om];simpa using this⟩
 have L:∀j,j<a.length->∃(b off cap:Nat)(r:Int)(s A:Option Addr)(D u C B:Nat),G=Zs (Zo ⟨b,off,Zn⟩) a.length cap/\b<w.heap.size/\w.cell? ⟨b,off+j*3,Zn⟩=Zo (Zi Zk r)/\w.cell? ⟨b,off+j*3+1,Zn⟩=Zo (Zs s D u)/\w.cell? ⟨b,off+j*3+2,Zn⟩=Zo (Zs A C B)/\a8 S w (M+1) (a.getD j zU) (Zi Zk r) (Zs s D u) (Zs A C B)/\gG (M+1) (a.getD j zU)=true:=fun j X=>by obtain⟨b,off,cap,r,s,A,D,u,C,B,h1,h2,h5,h6,h7,h8⟩:=jY hr c j X;rw[gn X];exact⟨b,off,cap,r,s,A,D,u,C,B,h1,h2,h5,h6,h7,h8,aG _ (Zg X)⟩
 obtain⟨lo,hi,o4,aE,o5,J,N,an,aF,ar⟩:=ay;generalize aM:Nd.sort t=op at *;have ai:op=1∨op=2∨op=3∨op=4∨op=5∨op=6∨op=7∨op=8∨op=9∨op=10∨op=11∨op=12∨op=13∨op=14∨op=15∨op=16∨op=17∨op=18∨op=19∨op=20∨op=21∨op=22∨op=23∨op=24∨op=25∨op=26∨op=27∨op=28∨op=29∨op=30∨op=31∨op=32∨op=33∨op=34∨op=35:=om;rcases ai with rfl|rfl|rfl|rfl|rfl|rfl|rfl|rfl|rfl|rfl|rfl|rfl|rfl|rfl|rfl|rfl|rfl|rfl|rfl|rfl|rfl|rfl|rfl|rfl|rfl|rfl|rfl|rfl|rfl|rfl|rfl|rfl|rfl|rfl|rfl
 ·have e:fV 1 (Nd.names t) (Nd.text t) l.reverse a=(iB 1,0):=by simp[fV]
  rw[e];exact iu 1 1 zS M S _ _ _ _ _ _ _ _ v G w c
 ·have e:fV 2 (Nd.names t) (Nd.text t) l.reverse a=(iB 2,0):=by simp[fV]
  rw[e];exact iu 2 2 zS M S _ _ _ _ _ _ _ _ v G w c
 ·have e:fV 3 (Nd.names t) (Nd.text t) l.reverse a=(iB 3,0):=by simp[fV]
  rw[e];exact iu 3 3 zS M S _ _ _ _ _ _ _ _ v G w c
 ·obtain⟨p,q,rfl,hp,g⟩:=HN (o4 zS);have e:fV 4 (Nd.names t) (Nd.text t) l.reverse a=nE l.reverse ((Nd.names t).getD 0 Ze):=by simp[fV,nE];generalize iY l.reverse _=o;cases o<;>rfl
  rw[e];exact IQ M S _ _ _ _ _ _ _ v G w c l hv hl p q _ hp (by have:=o4 zS;omega) g
 ·have e:fV 5 (Nd.names t) (Nd.text t) l.reverse a=(kF 6 (qd M (Nd.text t)),0):=by simp[fV]
  rw[e];exact IR M S _ _ _ _ _ _ _ _ v G w c hM (o5 zS)
 ·have e:fV 6 (Nd.names t) (Nd.text t) l.reverse a=(kF 4 (qd M (Nd.text t)),0):=by simp[fV]
  rw[e];exact IU M S _ _ _ _ _ _ _ _ v G w c hM (o5 zS)
 ·obtain⟨b,off,cap,r,s,A,D,u,C,B,rfl,n,k,d,f,E,ok⟩:=L 0 (by have:=J zS;omega);simp only[Nat.zero_mul,Nat.add_zero]at k d f;have e:fV 7 (Nd.names t) (Nd.text t) l.reverse a=(kF 6 (a.getD 0 zU),0):=by simp[fV]
  rw[e];exact IV M S _ _ _ _ _ _ _ _ v w c b off a.length cap n (by have:=J zS;omega) r s A D u C B _ E k d f
 ·obtain⟨b,off,cap,r,s,A,D,u,C,B,rfl,n,k,d,f,E,ok⟩:=L 0 (by have:=J zS;omega);simp only[Nat.zero_mul,Nat.add_zero]at k d f;have e:fV 8 (Nd.names t) (Nd.text t) l.reverse a=(kF 4 (a.getD 0 zU),0):=by simp[fV]
  rw[e];exact IW M S _ _ _ _ _ _ _ _ v w c b off a.length cap n (by have:=J zS;omega) r s A D u C B _ E k d f
 ·have e:fV 9 (Nd.names t) (Nd.text t) l.reverse a=(iB 1,0):=by simp[fV]
  rw[e];exact iu 9 1 zS M S _ _ _ _ _ _ _ _ v G w c
 ·have e:fV 10 (Nd.names t) (Nd.text t) l.reverse a=(iB 1,0):=by simp[fV]
  rw[e];exact iu 10 1 zS M S _ _ _ _ _ _ _ _ v G w c
 ·have e:fV 11 (Nd.names t) (Nd.text t) l.reverse a=(iB 1,0):=by simp[fV]
  rw[e];exact iu 11 1 zS M S _ _ _ _ _ _ _ _ v G w c
 ·have e:fV 12 (Nd.names t) (Nd.text t) l.reverse a=(iB 1,0):=by simp[fV]
  rw[e];exact iu 12 1 zS M S _ _ _ _ _ _ _ _ v G w c
 ·have e:fV 13 (Nd.names t) (Nd.text t) l.reverse a=(iB 1,0):=by simp[fV]
  rw[e];exact iu 13 1 zS M S _ _ _ _ _ _ _ _ v G w c
 ·have e:fV 14 (Nd.names t) (Nd.text t) l.reverse a=(iB 3,0):=by simp[fV]
  rw[e];exact iu 14 3 zS M S _ _ _ _ _ _ _ _ v G w c
 ·have e:fV 15 (Nd.names t) (Nd.text t) l.reverse a=(iB 3,0):=by simp[fV]
  rw[e];exact iu 15 3 zS M S _ _ _ _ _ _ _ _ v G w c
 ·have e:fV 16 (Nd.names t) (Nd.text t) l.reverse a=(iB 3,0):=by simp[fV]
  rw[e];exact iu 16 3 zS M S _ _ _ _ _ _ _ _ v G w c
 ·have e:fV 17 (Nd.names t) (Nd.text t) l.reverse a=(iB 3,0):=by simp[fV]
  rw[e];exact iu 17 3 zS M S _ _ _ _ _ _ _ _ v G w c
 ·have e:fV 18 (Nd.names t) (Nd.text t) l.reverse a=(iB 3,0):=by simp[fV]
  rw[e];exact iu 18 3 zS M S _ _ _ _ _ _ _ _ v G w c
 ·obtain⟨b,off,cap,r,s,A,D,u,C,B,rfl,n,k,d,f,E,ok⟩:=L 1 (by have:=N zS;omega);simp only[Nat.one_mul]at k d f;have e:fV 19 (Nd.names t) (Nd.text t) l.reverse a=(pq (a.getD 1 zU),0):=by simp[fV]
  rw[e];exact mN 19 zS M S _ _ _ _ _ _ _ _ v w c b off a.length cap n (by have:=N zS;omega) r s A D u C B _ E k d f
 ·obtain⟨b,off,cap,r,s,A,D,u,C,B,rfl,n,k,d,f,E,ok⟩:=L 1 (by have:=N zS;omega);simp only[Nat.one_mul]at k d f;have e:fV 20 (Nd.names t) (Nd.text t) l.reverse a=(pq (a.getD 1 zU),0):=by simp[fV]
  rw[e];exact mN 20 zS M S _ _ _ _ _ _ _ _ v w c b off a.length cap n (by have:=N zS;omega) r s A D u C B _ E k d f
 ·obtain⟨p,q,rfl,hp,g⟩:=HN (o4 zS);obtain⟨b,off,cap,r,s,A,D,u,C,B,rfl,n,k,d,f,E,ok⟩:=L 0 (by have:=J zS;omega);simp only[Nat.zero_mul,Nat.add_zero]at k d f;obtain⟨fl,ae,f8,fa,fr⟩:=ms ok (an zS);generalize Y:a.getD 0 zU=k0 at *;generalize Z:(Nd.names t).getD 0 Ze=nm at *;have y:=Y;have z:=Z;rw[List.getD_eq_getElem?_getD]at y z;obtain⟨aq,-,I,R⟩:=id E;obtain⟨_,_,ab,-⟩:=id I;cases ab
  obtain⟨ao,af,ad,-,ak⟩:=id R;cases ad
  have W:∀V,Bw w V->Calls prog 105 #[Zs s (Kd.names k0).length u,Zt nm] V fun e w'=>((∃i,∃h:i<(Kd.names k0).length,(Kd.names k0)[i]=nm/\e=Zr (Zi Zk (i:Int)))∨(nm ∉ Kd.names k0/\e=Zr (Zi Zk (-1))))/\w'=V:=fun V H=>pW S _ _ nm V (I.keep (a6 H c) fun _ h=>h) om;by_cases F:nm∈Kd.names k0
  ·obtain⟨i,hi,P⟩:=List.getElem_of_mem F;have U:i<(Kd.kids k0).length:=om;have O:kT (Kd.names k0) (Kd.kids k0) nm=Zo (Kd.kids k0)[i]:=by rw[<- P];exact mY _ _ i hi U fa
   have ah:∀V,Bw w V->Calls prog 105 #[Zs s (Kd.names k0).length u,Zt nm] V fun e w'=>e=Zr (Zi Zk (i:Int))/\w'=V:=fun V H=>(W V H).mono (by
    rintro e w' ⟨⟨j,X,Q,he⟩|⟨am,-⟩,hw⟩
    ·have:j=i:=wo fa j i X hi (by rw[Q,P])
     subst this;exact⟨he,hw⟩
    ·exact absurd F am)
   obtain⟨b3,o3,rfl,aw,aj⟩:=ak (fun e=>by rw[e]at U;simp at U);obtain⟨d0,d1,d2,q0,q1,q2,ap⟩:=aj i U;obtain⟨y0,ya,yl,yc,za,zl,zc,rfl,rfl,rfl⟩:=ap.shape;have e:fV 21 (Nd.names t) (Nd.text t) l.reverse a=(pq (fO M M (Kd.kids k0)[i]),0):=by simp[fV,mO,y,z,O]
   rw[e];exact GY M S _ _ _ _ _ _ _ v w c p q nm hp (by have:=o4 zS;omega) g b off a.length cap n (by have:=J zS;omega) _ _ _ d i ah b3 o3 _ _ (c _ aw) om f y0 ya za yl yc zl zc _ (ap.cp om) q0 q1 q2
  ·have O:kT (Kd.names k0) (Kd.kids k0) nm=Zn:=oJ _ _ _ F;have e:fV 21 (Nd.names t) (Nd.text t) l.reverse a=((zU:K (M+2)),8):=by simp[fV,mO,y,z,O]
   rw[e];refine Ai M S _ _ _ _ _ _ _ v w c p q nm hp (by have:=o4 zS;omega) g b off a.length cap n (by have:=J zS;omega) _ _ _ d fun V H=>(W V H).mono ?_;rintro e w' ⟨⟨j,X,Q,-⟩|⟨-,he⟩,hw⟩;·exact absurd (by rw[<- Q];exact Zg X) F
   ·exact⟨he,hw⟩
 ·obtain⟨p,q,rfl,hp,g⟩:=HN (o4 zS);obtain⟨b,off,cap,r,s,A,D,u,C,B,rfl,n,k,d,f,E,ok⟩:=L 0 (by have:=N zS;omega);simp only[Nat.zero_mul,Nat.add_zero]at k d f;obtain⟨fl,ae,f8,fa,fr⟩:=ms ok (an zS);generalize Y:a.getD 0 zU=k0 at *;generalize Z:(Nd.names t).getD 0 Ze=nm at *;have y:=Y;have z:=Z;rw[List.getD_eq_getElem?_getD]at y z;obtain⟨aq,-,I,R⟩:=id E;obtain⟨_,_,ab,-⟩:=id I;cases ab
  obtain⟨ao,af,ad,-,ak⟩:=id R;cases ad
  obtain⟨b',aI,aH,a0,aa,da,al,ac,dl,dc,ax,aJ,q0,q1,q2,az,aQ⟩:=L 1 (by have:=N zS;omega);cases ax
  simp only[Nat.one_mul]at q0 q1 q2;generalize ag:a.getD 1 zU=k1 at *;have e:fV 22 (Nd.names t) (Nd.text t) l.reverse a=(A3 k0 nm k1,0):=by rw[List.getD_eq_getElem?_getD]at ag;simp[fV,y,z,ag]
  rw[e];refine GZ M S _ _ _ _ _ _ _ v w c p q nm hp (by have:=o4 zS;omega) g b off a.length cap n (by have:=N zS;omega) (by have:=N zS;omega) r _ _ _ _ _ _ k d f a0 aa da al ac dl dc q0 q1 q2 _ fun V H=>?_;exact yK (M+1) S r (Kd.names k0) ((Kd.kids k0).map (fO M M)) k1 _ _ _ _ _ _ a0 aa da al ac dl dc nm V (I.keep (a6 H c) fun _ h=>h) (gP.up (R.keepK (a6 H c) fun _ h=>h) om) (az.keep (a6 H c) fun _ h=>h) (fun b n=>Zd (c b n) H.size) rfl (by rw[List.length_map]) fl ae f8 (aE rfl) fa
 ·obtain⟨p,q,rfl,hp,g⟩:=HN (o4 zS);obtain⟨b,off,cap,r,s,A,D,u,C,B,rfl,n,k,d,f,E,ok⟩:=L 0 (by have:=J zS;omega);simp only[Nat.zero_mul,Nat.add_zero]at k d f;obtain⟨fl,ae,f8,fa,fr⟩:=ms ok (an zS);generalize Y:a.getD 0 zU=k0 at *;generalize Z:(Nd.names t).getD 0 Ze=nm at *;have y:=Y;have z:=Z;rw[List.getD_eq_getElem?_getD]at y z;obtain⟨aq,-,I,R⟩:=id E;obtain⟨_,_,ab,-⟩:=id I;cases ab
  obtain⟨ao,af,ad,-,ak⟩:=id R;cases ad
  have W:∀V,Bw w V->Calls prog 105 #[Zs s (Kd.names k0).length u,Zt nm] V fun e w'=>((∃i,∃h:i<(Kd.names k0).length,(Kd.names k0)[i]=nm/\e=Zr (Zi Zk (i:Int)))∨(nm ∉ Kd.names k0/\e=Zr (Zi Zk (-1))))/\w'=V:=fun V H=>pW S _ _ nm V (I.keep (a6 H c) fun _ h=>h) om;by_cases F:nm∈Kd.names k0
  ·obtain⟨i,hi,P⟩:=List.getElem_of_mem F;have U:i<(Kd.kids k0).length:=om;have O:kT (Kd.names k0) (Kd.kids k0) nm=Zo (Kd.kids k0)[i]:=by rw[<- P];exact mY _ _ i hi U fa
   have ah:∀V,Bw w V->Calls prog 105 #[Zs s (Kd.names k0).length u,Zt nm] V fun e w'=>e=Zr (Zi Zk (i:Int))/\w'=V:=fun V H=>(W V H).mono (by
    rintro e w' ⟨⟨j,X,Q,he⟩|⟨am,-⟩,hw⟩
    ·have:j=i:=wo fa j i X hi (by rw[Q,P])
     subst this;exact⟨he,hw⟩
    ·exact absurd F am)
   have e:fV 23 (Nd.names t) (Nd.text t) l.reverse a=(yj k0 nm,0):=by simp[fV,mO,y,z,O]
   rw[e];refine G0 M S _ _ _ _ _ _ _ v w c p q nm hp (by have:=o4 zS;omega) g b off a.length cap n (by have:=J zS;omega) _ _ _ d i ah r _ _ _ k f _ fun V H=>?_;exact yI (M+1) S r (Kd.names k0) ((Kd.kids k0).map (fO M M)) _ _ _ _ _ _ nm V (I.keep (a6 H c) fun _ h=>h) (gP.up (R.keepK (a6 H c) fun _ h=>h) om) (fun b n=>Zd (c b n) H.size) rfl (by rw[List.length_map]) fl ae f8
  ·have O:kT (Kd.names k0) (Kd.kids k0) nm=Zn:=oJ _ _ _ F;have e:fV 23 (Nd.names t) (Nd.text t) l.reverse a=((zU:K (M+2)),8):=by simp[fV,mO,y,z,O]
   rw[e];refine Aj M S _ _ _ _ _ _ _ v w c p q nm hp (by have:=o4 zS;omega) g b off a.length cap n (by have:=J zS;omega) _ _ _ d fun V H=>(W V H).mono ?_;rintro e w' ⟨⟨j,X,Q,-⟩|⟨-,he⟩,hw⟩;·exact absurd (by rw[<- Q];exact Zg X) F
   ·exact⟨he,hw⟩
 ·have e:fV 24 (Nd.names t) (Nd.text t) l.reverse a=((⟨5,Nd.names t,a⟩:Kd (K (M+1))),0):=by simp[fV];rfl
  rw[e];exact G1 M S _ _ _ _ _ _ _ _ v G w c _ a h3 rfl (ar rfl).1 (ar rfl).2 hr
 ·obtain⟨b,off,cap,r,s,A,D,u,C,B,rfl,n,k,d,f,E,ok⟩:=L 0 (by have:=J zS;omega);simp only[Nat.zero_mul,Nat.add_zero]at k d f;obtain⟨b2,au,v0,va,wa,vl,vc,wl,wc,rfl,aC,av,f0,f1,f2,P,aP⟩:=k8 E c (.inr (aF rfl)) ok;have e:fV 25 (Nd.names t) (Nd.text t) l.reverse a=(pq (mP (a.getD 0 zU)),0):=by simp[fV]
  rw[e];exact G2 M S _ _ _ _ _ _ _ _ v w c b off a.length cap n (by have:=J zS;omega) b2 au _ _ av aC f v0 va wa vl vc wl wc _ P f0 f1 f2
 ·have e:fV 26 (Nd.names t) (Nd.text t) l.reverse a=(iB 1,0):=by simp[fV]
  rw[e];exact iu 26 1 zS M S _ _ _ _ _ _ _ _ v G w c
 ·obtain⟨b,off,cap,r,s,A,D,u,C,B,rfl,n,k,d,f,E,ok⟩:=L 0 (by have:=J zS;omega);simp only[Nat.zero_mul,Nat.add_zero]at k d f;have e:fV 27 (Nd.names t) (Nd.text t) l.reverse a=(pq (a.getD 0 zU),0):=by simp[fV]
  rw[e];exact qF 27 zS M S _ _ _ _ _ _ _ _ v w c b off a.length cap n (by have:=J zS;omega) r s A D u C B _ E k d f
 ·obtain⟨b,off,cap,r,s,A,D,u,C,B,rfl,n,k,d,f,E,ok⟩:=L 0 (by have:=J zS;omega);simp only[Nat.zero_mul,Nat.add_zero]at k d f;have e:fV 28 (Nd.names t) (Nd.text t) l.reverse a=(pq (a.getD 0 zU),0):=by simp[fV]
  rw[e];exact qF 28 zS M S _ _ _ _ _ _ _ _ v w c b off a.length cap n (by have:=J zS;omega) r s A D u C B _ E k d f
 ·have e:fV 29 (Nd.names t) (Nd.text t) l.reverse a=(iB 2,0):=by simp[fV]
  rw[e];exact iu 29 2 zS M S _ _ _ _ _ _ _ _ v G w c
 ·have e:fV 30 (Nd.names t) (Nd.text t) l.reverse a=(kF 6 (iB 1),0):=by simp[fV]
  rw[e];exact G3 M S _ _ _ _ _ _ _ _ v G w c
 ·obtain⟨b,off,cap,r,s,A,D,u,C,B,rfl,n,k,d,f,E,ok⟩:=L 1 (by have:=N zS;omega);simp only[Nat.one_mul]at k d f;have e:fV 31 (Nd.names t) (Nd.text t) l.reverse a=(pq (a.getD 1 zU),0):=by simp[fV]
  rw[e];exact mN 31 zS M S _ _ _ _ _ _ _ _ v w c b off a.length cap n (by have:=N zS;omega) r s A D u C B _ E k d f
 ·obtain⟨b,off,cap,r,s,A,D,u,C,B,rfl,n,k,d,f,E,ok⟩:=L 1 (by have:=N zS;omega);simp only[Nat.one_mul]at k d f;have e:fV 32 (Nd.names t) (Nd.text t) l.reverse a=(pq (a.getD 1 zU),0):=by simp[fV]
  rw[e];exact mN 32 zS M S _ _ _ _ _ _ _ _ v w c b off a.length cap n (by have:=N zS;omega) r s A D u C B _ E k d f
 ·obtain⟨b,off,cap,r,s,A,D,u,C,B,rfl,n,k,d,f,E,ok⟩:=L 1 (by have:=N zS;omega);simp only[Nat.one_mul]at k d f;have e:fV 33 (Nd.names t) (Nd.text t) l.reverse a=(kF 4 (a.getD 1 zU),0):=by simp[fV]
  rw[e];exact G4 M S _ _ _ _ _ _ _ _ v w c b off a.length cap n (by have:=N zS;omega) r s A D u C B _ E k d f
 ·obtain⟨b,off,cap,r,s,A,D,u,C,B,rfl,n,k,d,f,E,ok⟩:=L 0 (by have:=J zS;omega);simp only[Nat.zero_mul,Nat.add_zero]at k d f;have e:fV 34 (Nd.names t) (Nd.text t) l.reverse a=(pq (a.getD 0 zU),0):=by simp[fV]
  rw[e];exact qF 34 zS M S _ _ _ _ _ _ _ _ v w c b off a.length cap n (by have:=J zS;omega) r s A D u C B _ E k d f
 ·obtain⟨b,off,cap,r,s,A,D,u,C,B,rfl,n,k,d,f,E,ok⟩:=L 1 (by have:=N zS;omega);simp only[Nat.one_mul]at k d f;have e:fV 35 (Nd.names t) (Nd.text t) l.reverse a=(pq (a.getD 1 zU),0):=by simp[fV]
  rw[e];exact mN 35 zS M S _ _ _ _ _ _ _ _ v w c b off a.length cap n (by have:=N zS;omega) r s A D u C B _ E k d f
def lj(S:Nat->Prop)(M:Nat)(r:K (M+1)×Int×Nat)(w:Zw)(e:Ending)(w':Zw):Prop:=
 Bw w w' /\ ∃a b d c f h g,e=Zr (Zu #[Za #[Zi Zk a,Zs b d c,Zs f h g],Za #[Zi Zk r.2.1,Zi Zk (r.2.2:Nat)]])/\(r.2.1=0->a8 (Ov S w.heap.size Zn w') w' (M+1) r.1 (Zi Zk a) (Zs b d c) (Zs f h g)) /\
  (r.2.1≠0->a=0/\b=Zn/\d=0/\c=0/\f=Zn/\h=0/\g=0)
def EN(M m:Nat):Prop:=∀(S:Nat->Prop)(t:T m)(l:List (ByteArray×K (M+1)))(c0 c1 c2 c3 c4 v:Zv)(d:Nat)(a:Nat)(w:Zw),fT S w m t c0 c1 c2 c3 c4->jf S w (M+1) l v->(Bd S w)->gp m t (d:Int)=true->ni m t<=35->l.length<=1048576+2*d->(∀p,p∈l->gG (M+1) p.2=true)->a+fI m t<=1000 ->
 Calls prog 32 #[v,Za #[c0,c1,c2,c3,c4],Zi Zk (a:Int)] w (lj S M (gS [] m t l.reverse a) w)
theorem xZ{op:Int}{names:List ByteArray}{i:Nat}{b:List (K (M+1))}{l:List (ByteArray×K (M+1))}(j:∀p,p∈l->gG (M+1) p.2=true)(o:∀x,x∈b->gG (M+1) x=true)(hi:b.length=i)(c:qt op names i b):∀p,p∈gQ op names i b l->gG (M+1) p.2=true:=by
 have m:0<b.length->gG (M+1) (b.getD 0 zU)=true:=fun h=>by rw[gn h];exact o _ (Zg h)
 have r:1<b.length->gG (M+1) (b.getD 1 zU)=true:=fun h=>by rw[gn h];exact o _ (Zg h)
 have f:∀k:K (M+1),gG (M+1) k=true->Kd.sort k=6∨Kd.sort k=4->gG (M+1) (mP k)=true:=fun k ok u=>by
  obtain⟨x,q⟩:∃x,Kd.kids k=[x]:=by
   have d:fX (Kd.sort k) (Kd.names k) (Kd.kids k).length=true:=(ie (ix ok).1).2.1;unfold fX at d;refine List.length_eq_one_iff.1 ?_;rcases u with t|s;·rw[t]at d;simp at d;omega
   ·rw[s]at d;simp at d;omega
  have e:mP k=fO M M x:=by unfold mP;rw[q]
  have g:=pD ok x (by rw[q];simp);have n:=ss M x;rw[e];unfold gG at g ⊢;rw[n.1,n.2.1];exact g
 intro p a;unfold gQ at a;split at a
 ·next hc=>
  rcases List.mem_append.1 a with a|a;·exact j p a
  ·rw[List.mem_singleton]at a;subst a;exact m om
 ·split at a
  ·next hc=>
   rcases List.mem_append.1 a with a|a;·exact j p a
   ·rw[List.mem_singleton]at a;subst a;refine f _ (m om) ?_;rcases hc.1 with h|h|h|h;·exact .inl (c.may h hc.2)
    ·exact .inr (c.lst (.inl h) hc.2)
    ·exact .inr (c.lst (.inr (.inl h)) hc.2)
    ·exact .inr (c.lst (.inr (.inr h)) hc.2)
  ·split at a
   ·next hc=>
    rcases List.mem_append.1 a with a|a
    ·rcases List.mem_append.1 a with a|a;·exact j p a
     ·rw[List.mem_singleton]at a;subst a;exact r om
    ·rw[List.mem_singleton]at a;subst a;exact f _ (m om) (.inr (c.fld hc.1 hc.2))
   ·exact j p a
def IA(M:Nat)(l:List (ByteArray×K (M+1)))(R:Nat->Prop)(r:K (M+1)×Int×Nat)(p X:Nat):List Jx:=[.any,.any,.any,.any,FP l R,.any,.any,.any,.any,.any,.any,.any,.any,.is (Zi Zk (p:Nat)),nV (r.2.1=0) r.1 r.2.1 r.2.2 R true,nV (r.2.1=0) r.1 r.2.1 r.2.2 R true,nV (r.2.1=0) r.1 r.2.1 r.2.2 R false,.is (Za #[Zi Zk r.2.1,Zi Zk (r.2.2:Nat)]),.box X (Zc #[Zi Zk 0,Zs Zn 0 0,Zs Zn 0 0] 31 (0,0)),.box X (Zc #[Zi Zk 0,Zi Zk 0] 33 (0,0))]
def JE(j:Nat):Tmp:=[23,24,25,26,27,28,29,30,31,32,33,34,35,36,37,22,38,39,10,11].getD j 0
theorem wT(M m:Nat)(hM:5<=M)(hn:EN M m):EN M (m+1):=by
 intro S t l c0 c1 c2 c3 c4 v d z w ht hv hB hg ad dP cA dv;have ad:Nd.sort t<=35:=ad;simp only[gp,Bool.and_eq_true,decide_eq_true_eq,List.all_eq_true]at hg;obtain⟨⟨dE,hj⟩,bF⟩:=hg;have cJ:=Bu hj ad;have aF:=ht;obtain⟨rfl,rfl,rfl,hs,dy,dz,h3,h4,⟨na,nl,nc,rfl,dp⟩,⟨ka,kl,kc,rfl,dq⟩⟩:=ht;obtain⟨_,_,dw,-⟩:=id h3;cases dw
 obtain⟨_,_,dx,-⟩:=id h4;cases dx
 have be:1+b4 (fun k=>fI m k) (Nd.kids t)+z<=1000:=by have:fI (m+1) t=1+b4 (fun k=>fI m k) (Nd.kids t):=rfl;omega
 have cv:=mQ (Nd.kids t);obtain⟨W5,am⟩:∃W,W=(((w.alloc (Zc #[Zi Zk (Nd.sort t),Zi Zk (Nd.num t),Zt (Nd.text t),Zs na (Nd.names t).length nc,Zs ka (Nd.kids t).length kc] 40)).alloc (Zc #[Zi Zk 0,Zs Zn 0 0,Zs Zn 0 0] 31)).alloc (Zc #[Zi Zk 0,Zi Zk 0] 33)).alloc (Zc #[] 31):=⟨_,rfl⟩;have cq:Bw w W5:=by rw[am];exact (((gA _ _).alloc zS _).alloc zE _).alloc zE _
 have cR:W5.heap.size=w.heap.size+4:=by rw[am];simp
 have cL:W5.heap[w.heap.size]?=Zo (Zc #[Zi Zk (Nd.sort t),Zi Zk (Nd.num t),Zt (Nd.text t),Zs na (Nd.names t).length nc,Zs ka (Nd.kids t).length kc] 40 (0,0)):=by rw[am,Zh _ _ _ zE,Zh _ _ _ zE,Zh _ _ _ zS];exact heap_alloc_new _ _
 have cM:uv W5 (w.heap.size+1):=by rw[am];exact ((F7 w (Zc #[Zi Zk (Nd.sort t),Zi Zk (Nd.num t),Zt (Nd.text t),Zs na (Nd.names t).length nc,Zs ka (Nd.kids t).length kc] 40)).alloc _).alloc _
 have cN:mF W5 (w.heap.size+1+1):=by have:=sx ((w.alloc (Zc #[Zi Zk (Nd.sort t),Zi Zk (Nd.num t),Zt (Nd.text t),Zs na (Nd.names t).length nc,Zs ka (Nd.kids t).length kc] 40)).alloc (Zc #[Zi Zk 0,Zs Zn 0 0,Zs Zn 0 0] 31));rw[am];exact mF.alloc (by simpa using this) _
 have aD:W5.heap[w.heap.size+3]?=Zo (Zc #[] 31 (0,0)):=by have:=heap_alloc_new (((w.alloc (Zc #[Zi Zk (Nd.sort t),Zi Zk (Nd.num t),Zt (Nd.text t),Zs na (Nd.names t).length nc,Zs ka (Nd.kids t).length kc] 40)).alloc (Zc #[Zi Zk 0,Zs Zn 0 0,Zs Zn 0 0] 31)).alloc (Zc #[Zi Zk 0,Zi Zk 0] 33)) (Zc #[] 31);rw[am];simpa using this
 have HB:Hid (Bd S w):=hB;have aE:Hid (∀V,Below (w.heap.size+3) W5 V->(V.cell? ⟨w.heap.size,0,Zn⟩=Zo (Zi Zk (Nd.sort t))/\V.cell? ⟨w.heap.size,1,Zn⟩=Zo (Zi Zk (Nd.num t))/\V.cell? ⟨w.heap.size,2,Zn⟩=Zo (Zt (Nd.text t))/\V.cell? ⟨w.heap.size,3,Zn⟩=Zo (Zs na (Nd.names t).length nc)/\V.cell? ⟨w.heap.size,4,Zn⟩=Zo (Zs ka (Nd.kids t).length kc))/\uv V (w.heap.size+1)/\mF V (w.heap.size+1+1)/\Bw w V):=fun V N=>⟨fZ ((N.block w.heap.size om).trans cL),(N.block (w.heap.size+1) om).trans cM,(N.block (w.heap.size+1+1) om).trans cN,cq.trans (N.mono om)⟩;have aS:=a7 aF;have HV:=a7 hv;have db:=a7 h4;have cW:=a7 bF;have aT:=a7 cJ;have de:=a7 cA;have bo:Hid (nJ S (w.heap.size+3) M W5 (Zs (Zo ⟨w.heap.size+3,0,Zn⟩) 0 0) [] []):=⟨nj aD (Zl _),fun j h=>absurd h (Nat.not_lt_zero _)⟩;have dS:w.heap.size+4<=W5.heap.size:=Nat.le_of_eq cR.symm;have aj:=a7 be;have ds:(Nd.kids t).length<=1000:=om;clear aF hv hB bF cJ cA h3 h4 cL cM cN aD cq cR be cv dp dq hs dy dz hj dv;go_in;go_wp2_with fail;rw[<- am];clear am;have hE:w.heap.size+1+1+1=w.heap.size+3:=rfl;go_loopw [8,9] (fun kv iv wr=>∃(j:Nat)(H:List (K (M+1)))(xs:List Zv),iv=Zi Zk j/\j<=(Nd.kids t).length/\qv [] m t l.reverse z j H/\nJ S (w.heap.size+3) M wr kv H xs/\(∀x,x∈H->gG (M+1) x=true)/\Below (w.heap.size+3) W5 wr) (fun _ iv _=>(Nd.kids t).length-(intOf iv).toNat);case atStart=>exact⟨0,[],[],rfl,Nat.zero_le _,qv.start _ _ _ _ _,bo.out,fun x h=>(by cases h),Below.refl _ _⟩
 case round=>
  obtain⟨j,H,xs,rfl,dM,bN,bi,bg,aW⟩:=hrel;obtain⟨⟨q0,q1,q2,q3,q4⟩,qk,qf,bc⟩:=aE.out wr aW;have dT:=aW.size;have aq:=a7 bN;have Z:=a7 bi;have ak:=a7 bg;have bk:=a7 aW;have C:=a7 bc;have ab:=bN.len;clear bN bi bg aW bc;by_cases G:j<(Nd.kids t).length
  ·obtain⟨_,_,dt,-,aM⟩:=db.out;cases dt
   obtain⟨b,off,rfl,dm,aJ⟩:=aM (by intro h;rw[h]at G;simp at G);obtain⟨z0,z1,z2,z3,z4,e0,e1,e2,e3,e4,bM⟩:=aJ j G;obtain⟨y0,y1,y2,ya,yl,yc,za,zl,zc,rfl,rfl,rfl,rfl,rfl⟩:=bM.shape;have aH:=HB.out b dm;have f0:=kC C.out e0 aH;have f1:=kC C.out e1 aH;have f2:=kC C.out e2 aH;have f3:=kC C.out e3 aH;have f4:=kC C.out e4 aH;have bU:=a7 bM;obtain⟨ga,U,gc,rfl,bG⟩:∃a n c,u8=Zs a n c/\H.length=n:=by rcases Z.out.own.2 with ⟨h,h0⟩|⟨g,cap,dG,h,-⟩<;>exact⟨_,_,_,h,by first|exact h0|rfl⟩
   have aQ:=a7 bG;clear bG;obtain⟨r,hr⟩:=il (mB [] m t l.reverse z j H (Nd.kids t)[j]);have HR:=a7 hr;have cG:(gS [] m (Nd.kids t)[j] (gQ (Nd.sort t) (Nd.names t) j H l).reverse (fK (Nd.kids t) j z))=r:=by rw[hr,<- vs];rfl
   have bQ:=a7 (aT.out.bindOk ad aq.out);have ar:w.heap.size+3<=wr.heap.size:=om;have ae:∀b,S b->b<w.heap.size+3:=fun b s=>by have:=HB.out b s;omega
   have bA:∀b,Ov S (w.heap.size+3) (Value.slice ga U gc).ownBlock wr b->b<wr.heap.size:=Ov.lt ae ar;have aG:∀b,Ov S (w.heap.size+3) Zn wr b->b<wr.heap.size:=Ov.lt ae ar;have bh:fK (Nd.kids t) j z+fI m (Nd.kids t)[j]<=1000:=by have h1:=lO (Nd.kids t) (j+1);rw[fQ _ _ _ G]at h1;have:=aj.out;unfold fK;omega
   have ax:=xu (aT.out.kid j G);have aK:=cW.out _ (Zg G);have aB:Hid (∀V,Bw wr V->V.cell? ⟨w.heap.size,0,Zn⟩=Zo (Zi Zk (Nd.sort t))/\V.cell? ⟨w.heap.size,1,Zn⟩=Zo (Zi Zk (Nd.num t))/\V.cell? ⟨w.heap.size,2,Zn⟩=Zo (Zt (Nd.text t))/\V.cell? ⟨w.heap.size,3,Zn⟩=Zo (Zs na (Nd.names t).length nc)/\V.cell? ⟨w.heap.size,4,Zn⟩=Zo (Zs (Zo ⟨b,off,Zn⟩) (Nd.kids t).length kc)/\V.cell? ⟨b,off+j*5,Zn⟩=Zo (Zi Zk y0)/\V.cell? ⟨b,off+j*5+1,Zn⟩=Zo (Zi Zk y1)/\V.cell? ⟨b,off+j*5+2,Zn⟩=Zo (Zt y2)/\V.cell? ⟨b,off+j*5+3,Zn⟩=Zo (Zs ya yl yc)/\V.cell? ⟨b,off+j*5+4,Zn⟩=Zo (Zs za zl zc)):=fun V N=>⟨kC N q0 om,kC N q1 om,kC N q2 om,kC N q3 om,kC N q4 om,kC N f0 om,kC N f1 om,kC N f2 om,kC N f3 om,kC N f4 om⟩;have HA:Hid (∀V,Bw wr V->Calls prog 74 #[v,Za #[Zi Zk (Nd.sort t),Zi Zk (Nd.num t),Zt (Nd.text t),Zs na (Nd.names t).length nc,Zs (Zo ⟨b,off,Zn⟩) (Nd.kids t).length kc],Zi Zk (j:Int),(Zs ga U gc)] V fun e y=>∃v1,e=Zr v1/\Bw V y/\jf (Ov (Ov S (w.heap.size+3) (Value.slice ga U gc).ownBlock wr) V.heap.size Zn y) y (M+1) (gQ (Nd.sort t) (Nd.names t) j H l) v1):=fun V N=>by have au:=C.out.trans (N.mono C.out.size);refine (rA M m (Ov S (w.heap.size+3) (Value.slice ga U gc).ownBlock wr) (Ov S (w.heap.size+3) Zn wr) t l H j _ _ _ _ _ v (Zs ga U gc) V (aS.out.keep (a6 au HB.out) fun _ h=>.inl h) (HV.out.keep (a6 au HB.out) fun _ h=>.inl h) ((Z.out.row2 (by rw[ab];unfold maxLen;omega)).keep (a6 N aG) (fun _ h=>h) fun x _ _ _ _ A=>A.keep (a6 N bA) fun _ h=>h) (fun b s=>Zd (bA b s) N.size) (fun b s=>Zd (aG b s) N.size) om ab (.inr (.inr ak.out)) bQ.out).mono ?_;rintro e y ⟨bD,v1,rfl,bH⟩;exact⟨v1,rfl,bD,bH⟩
   have bn:Hid (∀V,Bw wr V->Calls prog 75 #[Za #[Zi Zk (Nd.sort t),Zi Zk (Nd.num t),Zt (Nd.text t),Zs na (Nd.names t).length nc,Zs (Zo ⟨b,off,Zn⟩) (Nd.kids t).length kc],Zi Zk (j:Int),Zi Zk (z:Int)] V fun e y=>e=Zr (Zi Zk (fK (Nd.kids t) j z:Nat))/\Bw V y):=fun V N=>by have au:=C.out.trans (N.mono C.out.size);exact nd m S t _ _ _ _ _ j z V (aS.out.keep (a6 au HB.out) fun _ h=>h) (fun b s=>Zd (HB.out b s) au.size) (by have:=aj.out;show 1+b4 (fun k=>fI m k) (Nd.kids t)<=_;omega) om (by have:=aj.out;omega)
   have HC:Hid (∀V v1 (R:Nat->Prop),Bw wr V->(Bd R V)->(∀b,S b->R b)->jf R V (M+1) (gQ (Nd.sort t) (Nd.names t) j H l) v1->Calls prog 32 #[v1,Za #[Zi Zk y0,Zi Zk y1,Zt y2,Zs ya yl yc,Zs za zl zc],Zi Zk (fK (Nd.kids t) j z:Nat)] V fun e y=>∃d0 da dl dc ea el ec,e=Zr (Zu #[Za #[Zi Zk d0,Zs da dl dc,Zs ea el ec],Za #[Zi Zk r.2.1,Zi Zk (r.2.2:Nat)]])/\Bw V y/\(r.2.1=0->a8 (Ov R V.heap.size Zn y) y (M+1) r.1 (Zi Zk d0) (Zs da dl dc) (Zs ea el ec))):=fun V v1 R N hR dk bH=>by have au:=C.out.trans (N.mono C.out.size);refine (hn R (Nd.kids t)[j] (gQ (Nd.sort t) (Nd.names t) j H l) _ _ _ _ _ v1 (d+1) (fK (Nd.kids t) j z) V (bU.out.keep (a6 au HB.out) dk) bH hR (by simpa using aK) ax.2 (by have:=vr (Nd.sort t) (Nd.names t) j H l;omega) (xZ de.out ak.out ab bQ.out) bh).mono ?_;rintro e y ⟨bD,d0,da,dl,dc,ea,el,ec,rfl,hk,-⟩;rw[cG]at hk ⊢;exact⟨d0,da,dl,dc,ea,el,ec,rfl,bD,hk⟩
   have HQ:Hid (∀b,(Ov S (w.heap.size+3) (Value.slice ga U gc).ownBlock wr) b∨wr.heap.size<=b->S b∨(w.heap.size+3<=b/\(Value.slice ga U gc).ownBlock≠Zo b)):=fun b s=>by
    have aA:=jE Z.out.own;rcases s with (s|s)|s;·exact .inl s
    ·exact .inr ⟨s.1,s.2.2⟩
    ·exact .inr ⟨om,fun e=>by have:=aA b e;omega⟩
   have ac:Hid ((∀b,S b->(Ov S (w.heap.size+3) (Value.slice ga U gc).ownBlock wr) b)/\∀b,(Ov S (w.heap.size+3) (Value.slice ga U gc).ownBlock wr) b->b<wr.heap.size):=⟨fun _ h=>.inl h,bA⟩;have bE:Bw wr wr.drew:=(Below.refl _ _).drew;have dK:(j:Int)<((Nd.kids t).length:Int):=om;clear e0 e1 e2 e3 e4 bM aM aJ aK bh cG hr;go_upto_region 5 with fail;go_cut [10,11] from 15 to 61 (fun pk pf wx=>∃nk nf,pk=Zp (Zo ⟨nk,0,Zn⟩)/\pf=Zp (Zo ⟨nf,0,Zn⟩)/\GP S (w.heap.size+3) M (Value.slice ga U gc).ownBlock wr r nk nf wx);case first=>
    refine wp_region_held_drew (S:=(fun w'=>w'.cell? ⟨w.heap.size,0,Zn⟩=Zo (Zi Zk (Nd.sort t))/\w'.cell? ⟨w.heap.size,1,Zn⟩=Zo (Zi Zk (Nd.num t))/\w'.cell? ⟨w.heap.size,2,Zn⟩=Zo (Zt (Nd.text t))/\w'.cell? ⟨w.heap.size,3,Zn⟩=Zo (Zs na (Nd.names t).length nc)/\w'.cell? ⟨w.heap.size,4,Zn⟩=Zo (Zs (Zo ⟨b,off,Zn⟩) (Nd.kids t).length kc)/\w'.cell? ⟨b,off+j*5,Zn⟩=Zo (Zi Zk y0)/\w'.cell? ⟨b,off+j*5+1,Zn⟩=Zo (Zi Zk y1)/\w'.cell? ⟨b,off+j*5+2,Zn⟩=Zo (Zt y2)/\w'.cell? ⟨b,off+j*5+3,Zn⟩=Zo (Zs ya yl yc)/\w'.cell? ⟨b,off+j*5+4,Zn⟩=Zo (Zs za zl zc))) zK (by exact⟨q0,q1,q2,q3,q4,f0,f1,f2,f3,f4⟩) (fun hHeld=>?_);refine tk 0 ?_;refine tk 1 ?_;refine tk 2 ?_;refine tk 3 ?_;refine tk 5 ?_;refine tk 6 ?_;refine tk 7 ?_;refine tk 8 ?_;refine tk 9 ?_;refine tk 10 ?_;refine tk 11 ?_;refine tk 12 ?_;have sd:wr.heap.size<=wr.drew.heap.size:=Zl _;generalize wr.drew=V0 at *;have HW:Hid (∀W,Bw V0 W->Bw wr W):=fun W h=>bE.trans (h.mono bE.size);obtain⟨R,bz⟩:∃R:Nat->Prop,R=fun b=>(Ov S (w.heap.size+3) (Value.slice ga U gc).ownBlock wr) b∨wr.heap.size<=b:=⟨_,rfl⟩;have bb:∀b,R b->(Ov S (w.heap.size+3) (Value.slice ga U gc).ownBlock wr) b∨wr.heap.size<=b:=by rw[bz];exact fun _ h=>h
    have az:∀b,(Ov S (w.heap.size+3) (Value.slice ga U gc).ownBlock wr) b∨wr.heap.size<=b->R b:=by rw[bz];exact fun _ h=>h
    have bX:=a7 bb;clear bz bb;refine CG 20 2 17 [4,13,14,15,16,17,18,19] (fun i=>((IA M (gQ (Nd.sort t) (Nd.names t) j H l) R r (fK (Nd.kids t) j z) V0.heap.size).getD i .any).p) JE (vu (E:=2) zK zK) (y9 zK) zK 84 zK zK (fun i v B B' W W' h P=>((IA M (gQ (Nd.sort t) (Nd.names t) j H l) R r (fK (Nd.kids t) j z) V0.heap.size).getD i .any).on h P) (fun W h=>aB.out W (HW.out W h)) zK zK zK zC zK zK zK zK ?step (by intro o ho;cases ho;exact fun _ _ _ _ h=>h) ?finL ?finA;case step=>
     refine Zm.2 ⟨?_,Zm.2 ⟨?_,Zm.2 ⟨?_,Zm.2 ⟨?_,Zm.2 ⟨?_,Zm.2 ⟨?_,Zm.2 ⟨?_,Zm.2 ⟨?_,fun _ h=>(by cases h)⟩⟩⟩⟩⟩⟩⟩⟩;all_goals (intro o ho;cases ho;intro a B W P hd;have ag:=HW.out W P.below;have cS:=P.below.size)
     ·have g0:a.tmps.getD 23 undef=v:=(P.fr 23 zC).trans zK;have g1:a.tmps.getD 24 undef=Za #[Zi Zk (Nd.sort t),Zi Zk (Nd.num t),Zt (Nd.text t),Zs na (Nd.names t).length nc,Zs (Zo ⟨b,off,Zn⟩) (Nd.kids t).length kc]:=(P.fr 24 zC).trans zK;have g2:a.tmps.getD 25 undef=Zi Zk (j:Int):=(P.fr 25 zC).trans zK;have g3:a.tmps.getD 26 undef=Zs ga U gc:=(P.fr 26 zC).trans zK;refine ng (J:=FP (gQ (Nd.sort t) (Nd.names t) j H l) R) rfl (args:=#[v,Za #[Zi Zk (Nd.sort t),Zi Zk (Nd.num t),Zt (Nd.text t),Zs na (Nd.names t).length nc,Zs (Zo ⟨b,off,Zn⟩) (Nd.kids t).length kc],Zi Zk (j:Int),Zs ga U gc]) (by simp[Act.eval,g0,g1,g2,g3]) (Tryz.call74 _ _) ((HA.out W ag).mono ?_);rintro e y ⟨v1,rfl,h2,h3⟩;refine⟨v1,rfl,h2,h3.keep (fun _ _=>rfl) fun b s=>?_,fun b s=>?_⟩
      ·rcases s with s|s;·exact⟨.inl (P.old b (by have:=ac.out.2 b s;omega)),az b (.inl s)⟩
       ·exact⟨.inr ⟨s.1,s.2.1⟩,az b (.inr om)⟩
      ·have:=h2.size;rcases s with s|s;·have:=P.lt b s;omega
       ·exact s.2
     ·have g0:a.tmps.getD 33 undef=Za #[Zi Zk (Nd.sort t),Zi Zk (Nd.num t),Zt (Nd.text t),Zs na (Nd.names t).length nc,Zs (Zo ⟨b,off,Zn⟩) (Nd.kids t).length kc]:=(P.fr 33 zC).trans zK;have g1:a.tmps.getD 34 undef=Zi Zk (j:Int):=(P.fr 34 zC).trans zK;have g2:a.tmps.getD 35 undef=Zi Zk (z:Int):=(P.fr 35 zC).trans zK;refine ng (J:=.is (Zi Zk (fK (Nd.kids t) j z:Nat))) rfl (args:=#[Za #[Zi Zk (Nd.sort t),Zi Zk (Nd.num t),Zt (Nd.text t),Zs na (Nd.names t).length nc,Zs (Zo ⟨b,off,Zn⟩) (Nd.kids t).length kc],Zi Zk (j:Int),Zi Zk (z:Int)]) (by simp[Act.eval,g0,g1,g2]) (Tryz.call75 _ _) ((bn.out W ag).mono ?_);rintro e y ⟨rfl,h2⟩;exact⟨_,rfl,h2,rfl⟩
     ·obtain⟨hv,-⟩:(FP (gQ (Nd.sort t) (Nd.names t) j H l) R).p (a.tmps.getD 27 undef) B W:=hd { on:=4,ground:=.data } (Array.mem_of_getElem? (i:=0) rfl) rfl zC;have g2:a.tmps.getD 36 undef=Zi Zk (fK (Nd.kids t) j z:Nat):=hd { on:=13,ground:=.data } (Array.mem_of_getElem? (i:=2) rfl) rfl zC;have g1:a.tmps.getD 32 undef=Za #[Zi Zk y0,Zi Zk y1,Zt y2,Zs ya yl yc,Zs za zl zc]:=(P.fr 32 zC).trans zK;obtain⟨v1,g0⟩:∃x,a.tmps.getD 27 undef=x:=⟨_,rfl⟩;rw[g0]at hv;refine ng (J:=nV (r.2.1=0) r.1 r.2.1 r.2.2 R true) rfl (args:=#[v1,Za #[Zi Zk y0,Zi Zk y1,Zt y2,Zs ya yl yc,Zs za zl zc],Zi Zk (fK (Nd.kids t) j z:Nat)]) (by simp[Act.eval,g0,g1,g2]) (Tryz.call32 _ _) ((HC.out W v1 (fun b=>B b/\R b) ag (fun b s=>P.lt b s.1) (fun b s=>⟨P.old b (by have:=ac.out.2 b (ac.out.1 b s);omega),az b (.inl (ac.out.1 b s))⟩) hv).mono ?_);rintro e y ⟨d0,da,dl,dc,ea,el,ec,rfl,h2,h3⟩;refine⟨_,rfl,h2,d0,da,dl,dc,ea,el,ec,rfl,fun h=>(h3 h).keep (fun _ _=>rfl) fun b s=>?_,fun b s=>?_⟩
      ·rcases s with s|s;·exact⟨.inl s.1,s.2⟩
       ·exact⟨.inr ⟨s.1,s.2.1⟩,az b (.inr om)⟩
      ·have:=h2.size;rcases s with s|s;·have:=P.lt b s;omega
       ·exact s.2
     ·exact Hw (J:=nV (r.2.1=0) r.1 r.2.1 r.2.2 R true) rfl rfl (hd { on:=14,ground:=.data } (Array.mem_of_getElem? (i:=0) rfl) rfl zC)
     ·obtain⟨d0,da,dl,dc,ea,el,ec,g0,h2,h3⟩:(nV (r.2.1=0) r.1 r.2.1 r.2.2 R true).p (a.tmps.getD 22 undef) B W:=hd { on:=15,ground:=.data } (Array.mem_of_getElem? (i:=0) rfl) rfl zC;exact tE (J:=nV (r.2.1=0) r.1 r.2.1 r.2.2 R false) rfl g0 (fun W=>zK) ⟨d0,da,dl,dc,ea,el,ec,rfl,h2,h3⟩
     ·obtain⟨d0,da,dl,dc,ea,el,ec,g0,h2,h3⟩:(nV (r.2.1=0) r.1 r.2.1 r.2.2 R true).p (a.tmps.getD 22 undef) B W:=hd { on:=15,ground:=.data } (Array.mem_of_getElem? (i:=0) rfl) rfl zC;exact tE (J:=.is (Za #[Zi Zk r.2.1,Zi Zk (r.2.2:Nat)])) rfl g0 (fun W=>zK) rfl
     ·exact tD (fun W=>zK) cS P.lt
     ·exact tD (fun W=>zK) cS P.lt
    case finL=>
     intro o ho a B W P hj;cases ho
     obtain⟨d0,da,dl,dc,ea,el,ec,g0,-⟩:(nV (r.2.1=0) r.1 r.2.1 r.2.2 R true).p (a.tmps.getD 22 undef) B W:=hj 15 zC zC;exact⟨Za #[Zi Zk r.2.1,Zi Zk (r.2.2:Nat)],Fu rfl g0 (fun W=>zK),rfl⟩
    case finA=>
     intro f a B W P hj;have ag:=HW.out W P.below;have hz:a.tmps.size=84:=P.size.trans zK;obtain⟨d0,da,dl,dc,ea,el,ec,cf,ai,G⟩:(nV (r.2.1=0) r.1 r.2.1 r.2.2 R true).p (a.tmps.getD 22 undef) B W:=hj 15 zC;obtain⟨bq,br,bu,bt,bv,bx,bw,cj,ai,-⟩:(nV (r.2.1=0) r.1 r.2.1 r.2.2 R false).p (a.tmps.getD 38 undef) B W:=hj 16 zC;have cl:a.tmps.getD 39 undef=Za #[Zi Zk r.2.1,Zi Zk (r.2.2:Nat)]:=hj 17 zC;obtain⟨nk,cd,dN,ap,cy⟩:(Jx.box V0.heap.size (Zc #[Zi Zk 0,Zs Zn 0 0,Zs Zn 0 0] 31 (0,0))).p (a.tmps.getD 10 undef) B W:=hj 18 zC;obtain⟨nf,ce,dH,aY,cu⟩:(Jx.box V0.heap.size (Zc #[Zi Zk 0,Zi Zk 0] 33 (0,0))).p (a.tmps.getD 11 undef) B W:=hj 19 zC;obtain⟨dB,cg⟩:∃x,a.tmps.getD 27 undef=x:=⟨_,rfl⟩;obtain⟨dC,ch⟩:∃x,a.tmps.getD 36 undef=x:=⟨_,rfl⟩;obtain⟨dD,ci⟩:∃x,a.tmps.getD 37 undef=x:=⟨_,rfl⟩;have ha:=xT P [(27,dB),(36,dC),(37,dD),(22,Zu #[Za #[Zi Zk d0,Zs da dl dc,Zs ea el ec],Za #[Zi Zk r.2.1,Zi Zk (r.2.2:Nat)]]),(38,Za #[Zi Zk bq,Zs br bu bt,Zs bv bx bw]),(39,Za #[Zi Zk r.2.1,Zi Zk (r.2.2:Nat)]),(10,Zp (Zo ⟨nk,0,Zn⟩)),(11,Zp (Zo ⟨nf,0,Zn⟩))] rfl hz zC (Zm.2 ⟨cg,Zm.2 ⟨ch,Zm.2 ⟨ci,Zm.2 ⟨cf,Zm.2 ⟨cj,Zm.2 ⟨cl,Zm.2 ⟨cd,Zm.2 ⟨ce,fun _ h=>(by cases h)⟩⟩⟩⟩⟩⟩⟩⟩);clear hz cg ch ci cf cj cl cd ce;have HG:=Lib.hid (FH (S:=S) (X:=w.heap.size+3) (o:=(Value.slice ga U gc).ownBlock) ag ai ap aY om om (fun b s=>⟨fun e=>cy (e ▸ s.1),fun e=>cu (e ▸ s.1),G b s.1,HQ.out b (bX.out b s.2)⟩));obtain⟨⟨r0,r1,r2⟩,g0,g1,g2⟩:=fY ap;obtain⟨⟨s0,s1⟩,h0,h1⟩:=gg aY;have bK:¬nf=nk:=fun e=>by subst e;have h1:_=_:=ap.symm.trans aY;cases h1
     have cX:=Lib.hid (aB.out _ (iH (g0:=Zi Zk bq) (g1:=Zs br bu bt) (g2:=Zs bv bx bw) ag (show wr.heap.size<=nk by omega)));have cY:=Lib.hid (aB.out _ (iG (u:=Zi Zk r.2.1) (v:=Zi Zk (r.2.2:Nat)) (iH (g0:=Zi Zk bq) (g1:=Zs br bu bt) (g2:=Zs bv bx bw) ag (show wr.heap.size<=nk by omega)) (show wr.heap.size<=nf by omega)));have hHeld:=aB.out W ag;clear HA bn HC HQ aB ag ai ap aY cy cu G P hj HW bX;subst ha;simp only[List.foldl_cons,List.foldl_nil];refine js 20 fun K hK=>?_;go_simp;refine hK.out _ _ cX.out (fun hHeld=>?_);clear hK K;refine js 21 fun K hK=>?_;go_simp;refine hK.out _ _ cY.out (fun hHeld=>?_);clear hK K;refine wpAnyH_done zK ?_ _;go_simp;go_wp2;go_meet;exact⟨nk,nf,rfl,rfl,HG.out⟩
   case rest=>
    obtain⟨nk,nf,rfl,rfl,hG⟩:=hcut;obtain⟨Wx,cn⟩:∃V,V=wc:=⟨_,rfl⟩;rw[<- cn]at hG ⊢;have bC:=bk.out.trans (hG.below.mono ar);have dJ:=hG.below.size;clear q0 q1 q2 q3 q4 qk qf f0 f1 f2 f3 f4 cn aB HA bn HC HQ ac bE;obtain⟨⟨q0,q1,q2,q3,q4⟩,qk,qf,bd⟩:=aE.out Wx bC;obtain⟨d0,da,dl,dc,ea,el,ec,aV,ai⟩:=hG.val;obtain⟨⟨k0,k1,k2⟩,-⟩:=fY aV;obtain⟨⟨t0,t1⟩,-⟩:=gg hG.flt;have bF:=hG.gk;have cr:=a7 aV;have du:nk<Wx.heap.size:=(Array.getElem?_eq_some_iff.1 aV).1;have dI:=hG.gf;have bm:=a7 ai;have cT:=a7 bC;have bS:=a7 bd;have bZ:=a7 (Z.out.keep ae ar hG.below);clear hG bC bd ai aV;have bJ:w.heap.size+1<Wx.heap.size:=qk.lt;by_cases ah:r.2.1=0
    ·have cC:1<=m:=by
      have h1:=ax.1;cases m with
      | zero=>exact absurd h1 (by show ¬(1:Int)<=0;omega)
      | succ m=>omega
     have bL:gG (M+1) r.1=true:=by have:=pu (M:=M) hM (sn:=[]) (env:=jV (Nd.sort t) (Nd.names t) j H l.reverse) (pl:=fK (Nd.kids t) j z) ax.2 (by have:=HR.out;unfold mB at this;rw[<- this];exact ah) cC;have cF:=HR.out;unfold mB at cF;rw[<- cF]at this;exact this
     have cI:(iz ([]:mq M) (show Nd (T m) from t)).getD zU=zU:=by unfold iz;split<;>rfl
     have bB:∀b,Ov S (w.heap.size+3) Zn Wx b->b<Wx.heap.size:=Ov.lt ae om;have HW:Hid (Calls prog 76 #[Zi Zk (Nd.sort t),Zi Zk (j:Int),Za #[Zi Zk d0,Zs da dl dc,Zs ea el ec],Zs ga U gc] Wx fun e w'=>e=Zr (.bool (b7 (Nd.sort t) zU j r.1 H))/\Bw Wx w'):=
      rB M (Ov S (w.heap.size+3) Zn Wx) (Nd.sort t) j r.1 H _ _ _ _ Wx ((bm.out ah).keep (fun _ _=>rfl) fun x A=>by
       rcases A with A|A
       ·exact .inl A
       ·exact .inr ⟨A.1,A.2.1,zS⟩) (bZ.out.row (by rw[ab];unfold maxLen;omega)) bB bL ak.out ab (aT.out.wantOp ad j G) (fun ho dL=>by
       have h0:=oZ aq.out 0 om
       rw[ho]at h0
       simpa [b7] using h0)
     have dd:=a7 (bm.out ah);have dh:=a7 bL;have ca:=a7 cI;have dF:=a7 bB;have bW:Hid ((mB [] m t l.reverse z j H (Nd.kids t)[j]).2.1=0):=by show _=_;rw[<- HR.out];exact ah
     generalize cK:b7 (Nd.sort t) zU j r.1 H=wb at *;have cb:=a7 cK;rw[ah]at t0;clear cK bL cI bB cC bm;go_wp2_with fail;refine HW.out.mono ?_;rintro e Q ⟨rfl,af⟩;have cH:=af.size;have aa:=cT.out.trans (af.mono om);have cz:=(af.block nk du).trans cr.out;clear q0 q1 q2 q3 q4 qk qf k0 k1 k2 t0 t1;obtain⟨⟨q0,q1,q2,q3,q4⟩,qk,qf,an⟩:=aE.out Q aa;obtain⟨⟨k0,k1,k2⟩,-⟩:=fY cz;have bO:=a7 af;have bR:=a7 aa;have I:=a7 an;clear af aa an cz HW;cases wb with
     | false=>
      have aI:gS [] (m+1) t l.reverse z=(zU,6,fK (Nd.kids t) j z):=by have h1:ip [] m t l.reverse z=([],6,fK (Nd.kids t) j z):=aq.out.wrong G bW.out (by rw[ca.out,<- HR.out];exact cb.out);rw[lp ad,h1];exact if_pos (show (6:Int)≠0 by decide)
      have Y:=a7 aI;have dj:Hid (Calls prog 75 #[Za #[Zi Zk (Nd.sort t),Zi Zk (Nd.num t),Zt (Nd.text t),Zs na (Nd.names t).length nc,Zs (Zo ⟨b,off,Zn⟩) (Nd.kids t).length kc],Zi Zk (j:Int),Zi Zk (z:Int)] Q fun e w'=>e=Zr (Zi Zk (fK (Nd.kids t) j z:Nat))/\Bw Q w'):=
       nd m S t _ _ _ _ _ j z Q (aS.out.keep (a6 I.out HB.out) fun _ h=>h) (fun b s=>Zd (HB.out b s) I.out.size) (by have:=aj.out;show 1+b4 (fun k=>fI m k) (Nd.kids t)<=_;omega) om (by have:=aj.out;omega)
      clear aI;go_wp2_with fail;refine dj.out.mono ?_;rintro e w3 ⟨rfl,F⟩;have L:=I.out.trans (F.mono I.out.size);obtain⟨⟨r0,r1,r2⟩,g0,g1,g2⟩:=fY ((F.block _ qk.lt).trans qk);obtain⟨⟨s0,s1⟩,h0,h1⟩:=gg ((F.block _ qf.lt).trans qf);have HF:Hid (lj S M ((zU:K (M+1)),(6:Int),fK (Nd.kids t) j z) w (Zr (Zu #[Za #[Zi Zk 0,Zs Zn 0 0,Zs Zn 0 0],Za #[Zi Zk 6,Zi Zk (fK (Nd.kids t) j z:Nat)]])) (((((w3.setCell ⟨w.heap.size+1,0,Zn⟩ (Zi Zk 0)).setCell ⟨w.heap.size+1,1,Zn⟩ (Zs Zn 0 0)).setCell ⟨w.heap.size+1,2,Zn⟩ (Zs Zn 0 0)).setCell ⟨w.heap.size+1+1,0,Zn⟩ (Zi Zk 6)).setCell ⟨w.heap.size+1+1,1,Zn⟩ (Zi Zk (fK (Nd.kids t) j z:Nat)))):=
       ⟨iG (iH L om) om,_,_,_,_,_,_,_,rfl,fun h=>absurd h (by show ¬(6:Int)=0;decide),fun _=>⟨rfl,rfl,rfl,rfl,rfl,rfl,rfl⟩⟩
      clear F L qk qf q0 q1 q2 q3 q4 k0 k1 k2;go_wp2_with fail;refine bodyPost_ret (v:=Zu #[Za #[Zi Zk 0,Zs Zn 0 0,Zs Zn 0 0],Za #[Zi Zk 6,Zi Zk (fK (Nd.kids t) j z:Nat)]]) (by simp[results,results32,go_sem,r0,r1,r2,s0,s1]) rfl ?_;rw[Y.out];exact HF.out
     | true=>
      have dg:=a7 (aq.out.next G bW.out (by rw[ca.out,<- HR.out];exact cb.out));have aN:=bZ.out.keep ae om bO.out;have bf:a8 (Ov S (w.heap.size+3) (Value.slice ga U gc).ownBlock Q) Q (M+1) r.1 (Zi Zk d0) (Zs da dl dc) (Zs ea el ec):=dd.out.keep (fun x A=>bO.out.block x (Ov.lt ae om x A)) fun x A=>by
       rcases A with A|A;·exact .inl A
       ·exact .inr ⟨A.1,by have:=A.2.1;omega,A.2.2⟩
      have cZ:=a7 bf;have bY:=a7 aN;have bV:Hid (Q.ownsRow (w.heap.size+3) 31 3 (Zs ga U gc) U xs):=by have:=aN.own;rw[aQ.out]at this;exact this
      obtain⟨dA,cx,cO,cP,cQ⟩:=info_parts Tryz.info_kindD;have aR:Hid (_/\_/\_/\_):=⟨cx,cO,cP,cQ⟩;have bG:U<=1000:=by have:=aQ.out;omega
      clear cx cO cP cQ aN bf qk qf q0 q1 q2 q3 q4;go_wp2_with (at_builtin;refine wpList_append_lies _ rfl (.tmp 58) (.tmp 60) 29 rfl (w.heap.size+3) 31 dA _ 3 56 underlying29 aR.out.1 aR.out.2.1 aR.out.2.2.1 aR.out.2.2.2 rfl zC (Zs ga U gc) U xs rfl (bV.out.alloc _) ⟨Q.heap.size,0,Zn⟩ 1 1 [Zi Zk d0,Zs da dl dc,Zs ea el ec] rfl rfl (World.news_of_block (heap_alloc_new Q _)) (by simp[Value.oneCell']) zC (by unfold maxLen;omega) om zE (Q.heap.size+1) zS ?_;intro g cap w3 aA av co cB;refine Hid.out ?_);refine Lib.hid ?_;have aw:=nJ.more (g:=g) (cap:=cap) (one:=Zc #[Zi Zk d0,Zs da dl dc,Zs ea el ec] 31) (Wa:=Q.alloc (Zc #[Zi Zk d0,Zs da dl dc,Zs ea el ec] 31)) bY.out ae om cZ.out rfl (by rw[aQ.out];exact aA) av co;rw[aQ.out]at aw;have df:=a7 aw;have bP:Hid (Below (w.heap.size+3) W5 w3):=(bR.out.alloc om (Zc #[Zi Zk d0,Zs da dl dc,Zs ea el ec] 31)).grown av zE (fun q hq=>(jE bV.out q hq).1);clear aA av co cB aw k0 k1 k2;go_wp2;go_roundw;case rel=>
       refine⟨j+1,H++[r.1],_,by go_num,om,?_,df.out,fun x A=>?_,bP.out⟩;·have:=dg.out;rw[<- HR.out]at this;exact this
       ·rcases List.mem_append.1 A with A|A;·exact ak.out x A
        ·rw[List.mem_singleton]at A;subst A;exact dh.out
      case measure=>simp[intOf];omega
    ·have dr:(r.2.1==0)=false:=by simpa using ah
     have aI:gS [] (m+1) t l.reverse z=(zU,r.2):=by
      have h1:ip [] m t l.reverse z=([],r.2):=by have:=aq.out.bad G (by rw[<- HR.out];exact ah);rw[<- HR.out]at this;exact this
      rw[lp ad,h1];exact if_pos ah
     have Y:=a7 aI;have HF:Hid (lj S M ((zU:K (M+1)),r.2) w (Zr (Zu #[Za #[Zi Zk 0,Zs Zn 0 0,Zs Zn 0 0],Za #[Zi Zk r.2.1,Zi Zk (r.2.2:Nat)]])) (((((Wx.drew.setCell ⟨w.heap.size+1,0,Zn⟩ (Zi Zk 0)).setCell ⟨w.heap.size+1,1,Zn⟩ (Zs Zn 0 0)).setCell ⟨w.heap.size+1,2,Zn⟩ (Zs Zn 0 0)).setCell ⟨w.heap.size+1+1,0,Zn⟩ (Zi Zk r.2.1)).setCell ⟨w.heap.size+1+1,1,Zn⟩ (Zi Zk (r.2.2:Nat)))):=
      ⟨iG (iH bS.out.drew om) om,_,_,_,_,_,_,_,rfl,fun h=>absurd h ah,fun _=>⟨rfl,rfl,rfl,rfl,rfl,rfl,rfl⟩⟩
     obtain⟨⟨r0,r1,r2⟩,g0,g1,g2⟩:=fY (show Wx.drew.heap[w.heap.size+1]?=_ from qk);obtain⟨⟨s0,s1⟩,h0,h1⟩:=gg (show Wx.drew.heap[w.heap.size+1+1]?=_ from qf);clear aI;go_upto_region 7 with fail;refine wp_region_held_drew (S:=(fun w'=>w'.cell? ⟨nf,0,Zn⟩=Zo (Zi Zk r.2.1)/\w'.cell? ⟨nf,1,Zn⟩=Zo (Zi Zk (r.2.2:Nat)))) zK (by exact⟨t0,t1⟩) (fun hHeld=>?_);refine tk 0 ?_;refine tk 1 ?_;have t0:Wx.drew.cell? ⟨nf,0,Zn⟩=Zo (Zi Zk r.2.1):=t0;have t1:Wx.drew.cell? ⟨nf,1,Zn⟩=Zo (Zi Zk (r.2.2:Nat)):=t1;generalize Wx.drew=Wd at *;refine js 2 fun K hK=>?_;go_simp;have ac:Hid ((((Wd.setCell ⟨w.heap.size+1,0,Zn⟩ (Zi Zk 0)).setCell ⟨w.heap.size+1,1,Zn⟩ (Zs Zn 0 0)).setCell ⟨w.heap.size+1,2,Zn⟩ (Zs Zn 0 0)).cell? ⟨nf,0,Zn⟩=Zo (Zi Zk r.2.1)/\(((Wd.setCell ⟨w.heap.size+1,0,Zn⟩ (Zi Zk 0)).setCell ⟨w.heap.size+1,1,Zn⟩ (Zs Zn 0 0)).setCell ⟨w.heap.size+1,2,Zn⟩ (Zs Zn 0 0)).cell? ⟨nf,1,Zn⟩=Zo (Zi Zk (r.2.2:Nat))):=⟨(World.cell?_of_block (a:=⟨nf,0,Zn⟩) (gT (by show nf≠_;omega))).trans t0,(World.cell?_of_block (a:=⟨nf,1,Zn⟩) (gT (by show nf≠_;omega))).trans t1⟩;refine hK.out _ _ ac.out (fun hHeld=>?_);clear hK K;refine js 3 fun K hK=>?_;go_simp;refine hK.out _ _ ⟨(World.cell?_of_block (a:=⟨nf,0,Zn⟩) (nU (by show nf≠_;omega))).trans ac.out.1,(World.cell?_of_block (a:=⟨nf,1,Zn⟩) (nU (by show nf≠_;omega))).trans ac.out.2⟩ (fun hHeld=>?_);clear hK K;refine wpAnyH_done zK ?_ _;go_simp;go_wp2_with fail;refine bodyPost_ret (v:=Zu #[Za #[Zi Zk 0,Zs Zn 0 0,Zs Zn 0 0],Za #[Zi Zk r.2.1,Zi Zk (r.2.2:Nat)]]) (by simp[results,results32,go_sem,r0,r1,r2,s0,s1]) rfl ?_;rw[Y.out];exact HF.out
  ·have bI:j=(Nd.kids t).length:=by omega
   have cV:=a7 (aq.out.done bI);have cU:=a7 (aT.out.comeOk ad ds aq.out bI);have ar:w.heap.size+3<=wr.heap.size:=om;have ae:∀b,S b->b<w.heap.size+3:=fun b s=>by have:=HB.out b s;omega
   have aG:∀b,Ov S (w.heap.size+3) Zn wr b->b<wr.heap.size:=Ov.lt ae ar;obtain⟨gv,cw⟩:=il u8;rw[<- cw]at Z ⊢;have bT:=Lib.hid (wR M m hM (Ov S (w.heap.size+3) Zn wr) t l H _ _ _ _ _ v gv wr (aS.out.keep (a6 C.out HB.out) fun _ h=>.inl h) (HV.out.keep (a6 C.out HB.out) fun _ h=>.inl h) (Z.out.row (by rw[ab];unfold maxLen;omega)) aG om ak.out cU.out);have ct:gS [] (m+1) t l.reverse z=kB (show Nd (T m) from t) l.reverse H z:=by rw[lp ad,cV.out];exact if_neg zS
   have cD:kB (show Nd (T m) from t) l.reverse H z=if (fV (Nd.sort t) (Nd.names t) (Nd.text t) l.reverse H).2≠0 then (zU,(fV (Nd.sort t) (Nd.names t) (Nd.text t) l.reverse H).2,z) else if gG (M+2) (fV (Nd.sort t) (Nd.names t) (Nd.text t) l.reverse H).1=true then (fO M (M+2) (fV (Nd.sort t) (Nd.names t) (Nd.text t) l.reverse H).1,0,0) else (zU,7,z):=by unfold kB;rw[if_neg (by show ¬36<=Nd.sort t;omega)]
   generalize fV (Nd.sort t) (Nd.names t) (Nd.text t) l.reverse H=cm at *;obtain⟨ck,cc⟩:=cm;have Y:=a7 (ct.trans cD);have dO:¬(j:Int)<((Nd.kids t).length:Int):=om;clear ct cD cw bI;have hq:=aE.out wr bk.out;go_wp2_with fail;refine bT.out.mono ?_;rintro e Q ⟨af,y0,ya,yl,yc,za,zl,zc,rfl,ap⟩;have aa:=bk.out.trans (af.mono ar);have cH:=af.size;obtain⟨-,aP,aO,an⟩:=aE.out Q aa;have I:=a7 an;clear q0 q1 q2 q3 q4 qk qf hq bT af aa an;have bJ:=aP.lt;have cE:=aO.lt;by_cases aX:cc=0
   ·subst aX;have ai:=ap rfl;obtain⟨W3,D⟩:∃V,V=Q.alloc (Zc #[Zi Zk y0,Zs ya yl yc,Zs za zl zc] 31):=⟨_,rfl⟩;have F:Bw Q W3:=by rw[D];exact gA _ _
    have aU:∀b,Ov (Ov S (w.heap.size+3) Zn wr) wr.heap.size Zn Q b->b<Q.heap.size:=Ov.lt aG cH;have aL:=ai.keep (a6 F aU) (fun _ h=>h);have bj:W3.heap.size=Q.heap.size+1:=by rw[D];simp
    have aD:=j9.new Q (Zi Zk y0) (Zs ya yl yc) (Zs za zl zc) 31;rw[<- D]at aD;have dR:Q.heap.size+1<=W3.heap.size:=Nat.le_of_eq bj.symm;have aC:=Lib.hid (ou (M+2) _ ck _ _ _ W3 aL (fun b s=>by have:=aU b s;omega));have bp:=a7 aD;have bl:=a7 aL;have bP:=a7 F;have ba:=(F.block _ bJ).trans aP;have aZ:=(F.block _ cE).trans aO;have L:=I.out.trans (F.mono I.out.size);have ay:=a7 L;clear ap ai aL F aD bj aP aO L;cases hok:gG (M+2) ck with
    | true=>
     rw[hok]at aC;have al:Hid (gS [] (m+1) t l.reverse z=(fO M (M+2) ck,0,0)):=by show _=_;rw[Y.out,if_neg zS,if_pos hok]
     have di:=a7 hok;clear hok Y;go_wp2_with fail;rw[<- D];refine aC.out.mono ?_;rintro e w4 ⟨rfl,O⟩;have dQ:=O.size;have ao:=ay.out.trans (O.mono ay.out.size);obtain⟨⟨r0,r1,r2⟩,g0,g1,g2⟩:=fY ((O.block _ (by rw[D];simp;omega)).trans ba);obtain⟨⟨s0,s1⟩,h0,h1⟩:=gg ((O.block _ (by rw[D];simp;omega)).trans aZ);obtain⟨k0,k1,k2⟩:=bp.out.keep O;have HF:Hid (lj S M (fO M (M+2) ck,(0:Int),0) w (Zr (Zu #[Za #[Zi Zk y0,Zs ya yl yc,Zs za zl zc],Za #[Zi Zk 0,Zi Zk 0]])) (((((w4.setCell ⟨w.heap.size+1,0,Zn⟩ (Zi Zk y0)).setCell ⟨w.heap.size+1,1,Zn⟩ (Zs ya yl yc)).setCell ⟨w.heap.size+1,2,Zn⟩ (Zs za zl zc)).setCell ⟨w.heap.size+1+1,0,Zn⟩ (Zi Zk 0)).setCell ⟨w.heap.size+1+1,1,Zn⟩ (Zi Zk 0))):=by
      refine⟨iG (iH ao om) om,_,_,_,_,_,_,_,rfl,fun _=>?_,fun h=>absurd rfl h⟩;refine (a8.okd di.out hM bl.out).keep (fun x A=>?_) fun x A=>?_
      ·have G:x<Q.heap.size:=aU x A;have bK:x≠w.heap.size+1/\x≠w.heap.size+1+1:=by
        rcases A with (A|A)|A;·have:=HB.out x A;omega
        ·have:=A.1;omega
        ·have:=A.1;omega
       rw[nU bK.2,gT bK.1];exact O.block x (by rw[D];simp;omega)
      ·have G:x<Q.heap.size:=aU x A;rcases A with (A|A)|A;·exact .inl A
       ·exact .inr ⟨by have:=A.1;omega,by rw[wH,oP];omega,zS⟩
       ·exact .inr ⟨by have:=A.1;omega,by rw[wH,oP];omega,zS⟩
     clear O ao ba aZ bp bl aC D;go_wp2_with fail;refine bodyPost_ret (v:=Zu #[Za #[Zi Zk y0,Zs ya yl yc,Zs za zl zc],Za #[Zi Zk 0,Zi Zk 0]]) (by simp[results,results32,go_sem,r0,r1,r2,s0,s1]) rfl ?_;rw[al.out];exact HF.out
    | false=>
     rw[hok]at aC;have al:Hid (gS [] (m+1) t l.reverse z=((zU:K (M+1)),7,z)):=by show _=_;rw[Y.out,if_neg zS,if_neg (by rw[hok];simp)]
     clear hok Y;go_wp2_with fail;rw[<- D];refine aC.out.mono ?_;rintro e w4 ⟨rfl,O⟩;have ao:=ay.out.trans (O.mono ay.out.size);obtain⟨⟨r0,r1,r2⟩,g0,g1,g2⟩:=fY ((O.block _ (by rw[D];simp;omega)).trans ba);obtain⟨⟨s0,s1⟩,h0,h1⟩:=gg ((O.block _ (by rw[D];simp;omega)).trans aZ);have HF:Hid (lj S M ((zU:K (M+1)),(7:Int),z) w (Zr (Zu #[Za #[Zi Zk 0,Zs Zn 0 0,Zs Zn 0 0],Za #[Zi Zk 7,Zi Zk (z:Nat)]])) (((((w4.setCell ⟨w.heap.size+1,0,Zn⟩ (Zi Zk 0)).setCell ⟨w.heap.size+1,1,Zn⟩ (Zs Zn 0 0)).setCell ⟨w.heap.size+1,2,Zn⟩ (Zs Zn 0 0)).setCell ⟨w.heap.size+1+1,0,Zn⟩ (Zi Zk 7)).setCell ⟨w.heap.size+1+1,1,Zn⟩ (Zi Zk (z:Nat)))):=⟨iG (iH ao om) om,_,_,_,_,_,_,_,rfl,fun h=>absurd h (by show ¬(7:Int)=0;decide),fun _=>⟨rfl,rfl,rfl,rfl,rfl,rfl,rfl⟩⟩;clear O ao ba aZ bp bl aC D;go_wp2_with fail;refine bodyPost_ret (v:=Zu #[Za #[Zi Zk 0,Zs Zn 0 0,Zs Zn 0 0],Za #[Zi Zk 7,Zi Zk (z:Int)]]) (by simp[results,results32,go_sem,r0,r1,r2,s0,s1]) rfl ?_;rw[al.out];exact HF.out
   ·have dr:(cc==0)=false:=by simpa using aX
    have al:Hid (gS [] (m+1) t l.reverse z=((zU:K (M+1)),cc,z)):=by show _=_;rw[Y.out,if_pos aX]
    obtain⟨W3,D⟩:∃V,V=Q.alloc (Zc #[Zi Zk y0,Zs ya yl yc,Zs za zl zc] 31):=⟨_,rfl⟩;have F:Bw Q W3:=by rw[D];exact gA _ _
    have L:=I.out.trans (F.mono I.out.size);obtain⟨⟨r0,r1,r2⟩,g0,g1,g2⟩:=fY ((F.block _ bJ).trans aP);obtain⟨⟨s0,s1⟩,h0,h1⟩:=gg ((F.block _ cE).trans aO);have HF:Hid (lj S M ((zU:K (M+1)),cc,z) w (Zr (Zu #[Za #[Zi Zk 0,Zs Zn 0 0,Zs Zn 0 0],Za #[Zi Zk cc,Zi Zk (z:Nat)]])) ((((((W3.setCell ⟨w.heap.size+1,0,Zn⟩ (Zi Zk 0)).setCell ⟨w.heap.size+1,1,Zn⟩ (Zs Zn 0 0)).setCell ⟨w.heap.size+1,2,Zn⟩ (Zs Zn 0 0)).setCell ⟨w.heap.size+1+1,0,Zn⟩ (Zi Zk cc)).setCell ⟨w.heap.size+1+1,1,Zn⟩ (Zi Zk (z:Nat))))):=
     ⟨iG (iH L om) om,_,_,_,_,_,_,_,rfl,fun h=>absurd h aX,fun _=>⟨rfl,rfl,rfl,rfl,rfl,rfl,rfl⟩⟩
    clear ap Y aP aO F L;go_upto_region 12 with fail;rw[<- D];clear D;go_wp2_with fail;refine bodyPost_ret (v:=Zu #[Za #[Zi Zk 0,Zs Zn 0 0,Zs Zn 0 0],Za #[Zi Zk cc,Zi Zk (z:Int)]]) (by simp[results,results32,go_sem,r0,r1,r2,s0,s1]) rfl ?_;rw[al.out];exact HF.out
end Go.Proofs.YtcfojmaccikgeaaGreatDoor
