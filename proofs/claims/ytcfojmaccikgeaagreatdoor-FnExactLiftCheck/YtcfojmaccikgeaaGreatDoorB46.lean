import Derived.Test.YtcfojmaccikgeaaGreatDoorB32
open Go.Value renaming slice→Zs,int→Zi,string→Zt,agg→Za,tuple→Zu
open Go.IntKind renaming i64→Zk
open Go.Ending renaming returned→Zr
open Go.Obj renaming cells→Zc
open Option renaming none→Zn,some→Zo
open Go renaming World→Zw,Value→Zv
open Nat renaming lt_of_lt_of_le→Zd
open Go.RowKit.Below renaming heap_alloc→Zh
open List renaming getElem_mem→Zg
open ByteArray renaming empty→Ze
namespace Go.Proofs.YtcfojmaccikgeaaGreatDoor
open Go.RowKit Go.Proofs.Tryz
set_option maxRecDepth 100000
set_option maxHeartbeats 16000000
variable {M m n:Nat} {S:ZP} {w V w' W:Zw} {c0 c1 c2:Zv}
def iu(S:ZP)(n:Nat)(k:K n)(a:Int)(w:Zw)(e:Ending)(w':Zw):Prop:=
 Bw w w' /\ ∃b c f d g i h,e=Zr (Zu #[Za #[Zi Zk b,Zs c f d,Zs g i h],Zi Zk a])/\(a=0->a8 (Ov S w.heap.size Zn w') w' n k (Zi Zk b) (Zs c f d) (Zs g i h))
theorem ju {k:K n} (d:Bd S w) (a:Bw w W) (c:a8 (Ov S (w.heap.size+2) Zn W) W n k c0 c1 c2) :
  iu S n k 0 w (Zr (Zu #[Za #[c0,c1,c2],Zi Zk 0])) (((W.setCell ⟨w.heap.size+1,0,Zn⟩ c0).setCell ⟨w.heap.size+1,1,Zn⟩ c1).setCell ⟨w.heap.size+1,2,Zn⟩ c2):=by
 obtain⟨e,f,h,g,i,l,j,rfl,rfl,rfl⟩:=c.shape;refine⟨iG a om,e,f,h,g,i,l,j,rfl,fun _=>c.keep (fun b a=>gS ?_) fun b a=>?_⟩
 ·rcases a with a|a;·have:=d b a;omega
  ·have:=a.1;omega
 ·rcases a with a|a;·exact .inl a
  ·exact .inr ⟨by have:=a.1;omega,by rw[oP];exact a.2.1,a.2.2⟩
theorem sW{k:K n}{a:Int}(b:Bw w W)(c:a≠0):iu S n k a w (Zr (Zu #[Za #[Zi Zk 0,Zs Zn 0 0,Zs Zn 0 0],Zi Zk a])) W:=
 ⟨b,_,_,_,_,_,_,_,rfl,fun h=>absurd h c⟩
theorem sX{k:K n}(e:Bd S w)(b:a8 S w n k c0 c1 c2)(c d:Obj):iu S n k 0 w (Zr (Zu #[Za #[c0,c1,c2],Zi Zk 0])) ((w.alloc c).alloc d):=by have a:Bw w ((w.alloc c).alloc d):=(gx _ _).alloc zS _;obtain⟨f,g,j,i,l,o,m,rfl,rfl,rfl⟩:=b.shape;exact⟨a,f,g,j,i,l,o,m,rfl,fun _=>b.keep (a6 a e) fun _ h=>.inl h⟩
theorem oT{k:K n}(d:w.heap.size+2<=V.heap.size)(c:a8 (Ov S V.heap.size Zn W) W n k c0 c1 c2):a8 (Ov S (w.heap.size+2) Zn W) W n k c0 c1 c2:=
 c.keep (fun _ _=>rfl) fun b a=>by
  rcases a with a|a
  ·exact .inl a
  ·exact .inr ⟨om,a.2⟩
theorem ir (op s:Int) (f:(op=1/\s=1)∨(op=2/\s=2)∨(op=3/\s=3)∨(op=9/\s=1)∨(op=10/\s=1)∨(op=11/\s=1)∨(op=12/\s=1)∨(op=13/\s=1)∨(op=26/\s=1)∨(op=14/\s=3)∨(op=15/\s=3)∨(op=16/\s=3)∨(op=17/\s=3)∨(op=18/\s=3)∨(op=29/\s=2)) (M:Nat) (S:ZP) (l:Int) (m:ZN) (na ka:ZO) (k j kl kc:Nat) (v:Zv) (r:Zv) (w:Zw) (o:Bd S w) :
  Calls prog 77 #[v,Za #[Zi Zk op,Zi Zk l,Zt m,Zs na k j,Zs ka kl kc],r] w (iu S (M+2) (iA s) 0 w):=by
 have i:(Lit.int Zk s).wf=true:=by rcases f with ⟨-,rfl⟩|⟨-,rfl⟩|⟨-,rfl⟩|⟨-,rfl⟩|⟨-,rfl⟩|⟨-,rfl⟩|⟨-,rfl⟩|⟨-,rfl⟩|⟨-,rfl⟩|⟨-,rfl⟩|⟨-,rfl⟩|⟨-,rfl⟩|⟨-,rfl⟩|⟨-,rfl⟩|⟨-,rfl⟩<;>rfl
 obtain⟨W,d⟩:=ii ((w.alloc (Zc #[Zi Zk op,Zi Zk l,Zt m,Zs na k j,Zs ka kl kc] 40)).alloc (Zc #[Zi Zk 0,Zs Zn 0 0,Zs Zn 0 0] 31));have c:Bw w W:=by rw[d];exact (gx _ _).alloc zS _
 have t:w.heap.size+2<=W.heap.size:=by rw[d];simp
 have g:W.heap[w.heap.size+1]?=Zo (Zc #[Zi Zk 0,Zs Zn 0 0,Zs Zn 0 0] 31 (0,0)):=by have:=heap_alloc_new (w.alloc (Zc #[Zi Zk op,Zi Zk l,Zt m,Zs na k j,Zs ka kl kc] 40)) (Zc #[Zi Zk 0,Zs Zn 0 0,Zs Zn 0 0] 31);rw[d];simpa using this
 have q:=a7 g;have n:=Lib.hid (vD s W);have b:Hid (∀h,Bw W h->iu S (M+2) (iA s) 0 w (Zr (Zu #[Za #[Zi Zk s,Zs Zn 0 0,Zs Zn 0 0],Zi Zk 0])) (((h.setCell ⟨w.heap.size+1,0,Zn⟩ (Zi Zk s)).setCell ⟨w.heap.size+1,1,Zn⟩ (Zs Zn 0 0)).setCell ⟨w.heap.size+1,2,Zn⟩ (Zs Zn 0 0))):=fun h a=>ju o (c.trans (a.mono c.size)) (yR i);clear o c g;rcases f with ⟨rfl,rfl⟩|⟨rfl,rfl⟩|⟨rfl,rfl⟩|⟨rfl,rfl⟩|⟨rfl,rfl⟩|⟨rfl,rfl⟩|⟨rfl,rfl⟩|⟨rfl,rfl⟩|⟨rfl,rfl⟩|⟨rfl,rfl⟩|⟨rfl,rfl⟩|⟨rfl,rfl⟩|⟨rfl,rfl⟩|⟨rfl,rfl⟩|⟨rfl,rfl⟩;all_goals
  go_in
  go_wp2_with fail
  rw[<- d]
  refine n.out.mono ?_
  rintro e h ⟨rfl,a⟩
  obtain⟨⟨u,x,y⟩,f0,f1,f2⟩:=fY ((a.block (w.heap.size+1) om).trans q.out)
  have p:=Lib.hid (b.out h a)
  clear a d b n
  go_wp2_with fail
  exact bodyPost_ret (by simp[results,results77,go_sem,u,x,y]) rfl p.out
theorem I1 (M:Nat) (S:ZP) (x:Int) (y:ZN) (na ka:ZO) (u t kl kc:Nat) (v:Zv) (w:Zw) (r:Bd S w) (b off n cap:Nat) (o:b<w.heap.size) (hn:0<n) (E:Int) (F B:ZO) (H G D C:Nat) (k:K (M+1)) (A:a8 S w (M+1) k (Zi Zk E) (Zs F H G) (Zs B D C)) (g0:w.cell? ⟨b,off,Zn⟩=Zo (Zi Zk E)) (g1:w.cell? ⟨b,off+1,Zn⟩=Zo (Zs F H G)) (g2:w.cell? ⟨b,off+2,Zn⟩=Zo (Zs B D C)) :
  Calls prog 77 #[v,Za #[Zi Zk 7,Zi Zk x,Zt y,Zs na u t,Zs ka kl kc],Zs (Zo ⟨b,off,Zn⟩) n cap] w (iu S (M+2) (kE 6 k) 0 w):=by
 obtain⟨W,m⟩:=ii ((w.alloc (Zc #[Zi Zk 7,Zi Zk x,Zt y,Zs na u t,Zs ka kl kc] 40)).alloc (Zc #[Zi Zk 0,Zs Zn 0 0,Zs Zn 0 0] 31));have a:Bw w W:=by rw[m];exact (gx _ _).alloc zS _
 have s:w.heap.size+2<=W.heap.size:=by rw[m];simp
 have q:W.heap[w.heap.size+1]?=Zo (Zc #[Zi Zk 0,Zs Zn 0 0,Zs Zn 0 0] 31 (0,0)):=by have:=heap_alloc_new (w.alloc (Zc #[Zi Zk 7,Zi Zk x,Zt y,Zs na u t,Zs ka kl kc] 40)) (Zc #[Zi Zk 0,Zs Zn 0 0,Zs Zn 0 0] 31);rw[m];simpa using this
 have J:=a7 q;have z:=Lib.hid (kz (M+1) S 6 k _ _ _ W rfl (A.keep (a6 a r) fun _ h=>h) (fun b o=>Zd (r b o) a.size));have g:Hid (∀l c0 c1 c2,Bw W l->a8 (Ov S W.heap.size Zn l) l (M+2) (kE 6 k) c0 c1 c2->iu S (M+2) _ 0 w (Zr (Zu #[Za #[c0,c1,c2],Zi Zk 0])) (((l.setCell ⟨w.heap.size+1,0,Zn⟩ c0).setCell ⟨w.heap.size+1,1,Zn⟩ c1).setCell ⟨w.heap.size+1,2,Zn⟩ c2)):=fun l c0 c1 c2 c d=>ju r (a.trans (c.mono a.size)) (oT s d);have f:∀i j:Obj,Bw w ((w.alloc i).alloc j):=fun i j=>(gx _ _).alloc zS _;have g0:=fun i j=>((f i j).cell (p:=⟨b,off,Zn⟩) o).trans g0;have g1:=fun i j=>((f i j).cell (p:=⟨b,off+1,Zn⟩) o).trans g1;have g2:=fun i j=>((f i j).cell (p:=⟨b,off+2,Zn⟩) o).trans g2;clear A r a q f;go_in;go_wp2_with fail;rw[<- m];refine z.out.mono ?_;rintro e l ⟨c,Y,Z,d2,rfl,d⟩;obtain⟨P,Q,T,R,U,X,V,rfl,rfl,rfl⟩:=d.shape;obtain⟨⟨L,N,O⟩,f0,f1,f2⟩:=fY ((c.block (w.heap.size+1) om).trans J.out);have I:=Lib.hid (g.out l _ _ _ c d);clear c m g z d;go_wp2_with fail;refine bodyPost_ret (v:=Zu #[Za #[Zi Zk P,Zs Q T R,Zs U X V],Zi Zk 0]) (by simp[results,results77,go_sem,L,N,O]) rfl ?_;exact I.out
theorem I2 (M:Nat) (S:ZP) (x:Int) (y:ZN) (na ka:ZO) (u t kl kc:Nat) (v:Zv) (w:Zw) (r:Bd S w) (b off n cap:Nat) (o:b<w.heap.size) (hn:0<n) (E:Int) (F B:ZO) (H G D C:Nat) (k:K (M+1)) (A:a8 S w (M+1) k (Zi Zk E) (Zs F H G) (Zs B D C)) (g0:w.cell? ⟨b,off,Zn⟩=Zo (Zi Zk E)) (g1:w.cell? ⟨b,off+1,Zn⟩=Zo (Zs F H G)) (g2:w.cell? ⟨b,off+2,Zn⟩=Zo (Zs B D C)) :
  Calls prog 77 #[v,Za #[Zi Zk 8,Zi Zk x,Zt y,Zs na u t,Zs ka kl kc],Zs (Zo ⟨b,off,Zn⟩) n cap] w (iu S (M+2) (kE 4 k) 0 w):=by
 obtain⟨W,m⟩:=ii ((w.alloc (Zc #[Zi Zk 8,Zi Zk x,Zt y,Zs na u t,Zs ka kl kc] 40)).alloc (Zc #[Zi Zk 0,Zs Zn 0 0,Zs Zn 0 0] 31));have a:Bw w W:=by rw[m];exact (gx _ _).alloc zS _
 have s:w.heap.size+2<=W.heap.size:=by rw[m];simp
 have q:W.heap[w.heap.size+1]?=Zo (Zc #[Zi Zk 0,Zs Zn 0 0,Zs Zn 0 0] 31 (0,0)):=by have:=heap_alloc_new (w.alloc (Zc #[Zi Zk 8,Zi Zk x,Zt y,Zs na u t,Zs ka kl kc] 40)) (Zc #[Zi Zk 0,Zs Zn 0 0,Zs Zn 0 0] 31);rw[m];simpa using this
 have J:=a7 q;have z:=Lib.hid (kz (M+1) S 4 k _ _ _ W rfl (A.keep (a6 a r) fun _ h=>h) (fun b o=>Zd (r b o) a.size));have g:Hid (∀l c0 c1 c2,Bw W l->a8 (Ov S W.heap.size Zn l) l (M+2) (kE 4 k) c0 c1 c2->iu S (M+2) _ 0 w (Zr (Zu #[Za #[c0,c1,c2],Zi Zk 0])) (((l.setCell ⟨w.heap.size+1,0,Zn⟩ c0).setCell ⟨w.heap.size+1,1,Zn⟩ c1).setCell ⟨w.heap.size+1,2,Zn⟩ c2)):=fun l c0 c1 c2 c d=>ju r (a.trans (c.mono a.size)) (oT s d);have f:∀i j:Obj,Bw w ((w.alloc i).alloc j):=fun i j=>(gx _ _).alloc zS _;have g0:=fun i j=>((f i j).cell (p:=⟨b,off,Zn⟩) o).trans g0;have g1:=fun i j=>((f i j).cell (p:=⟨b,off+1,Zn⟩) o).trans g1;have g2:=fun i j=>((f i j).cell (p:=⟨b,off+2,Zn⟩) o).trans g2;clear A r a q f;go_in;go_wp2_with fail;rw[<- m];refine z.out.mono ?_;rintro e l ⟨c,Y,Z,d2,rfl,d⟩;obtain⟨P,Q,T,R,U,X,V,rfl,rfl,rfl⟩:=d.shape;obtain⟨⟨L,N,O⟩,f0,f1,f2⟩:=fY ((c.block (w.heap.size+1) om).trans J.out);have I:=Lib.hid (g.out l _ _ _ c d);clear c m g z d;go_wp2_with fail;refine bodyPost_ret (v:=Zu #[Za #[Zi Zk P,Zs Q T R,Zs U X V],Zi Zk 0]) (by simp[results,results77,go_sem,L,N,O]) rfl ?_;exact I.out
theorem Hb (M:Nat) (S:ZP) (x:Int) (y:ZN) (na ka:ZO) (u t kl kc:Nat) (v:Zv) (w:Zw) (r:Bd S w) (b off n cap:Nat) (o:b<w.heap.size) (hn:(1:Int)<(n:Int)) (E:Int) (F B:ZO) (H G D C:Nat) (k:K (M+1)) (A:a8 S w (M+1) k (Zi Zk E) (Zs F H G) (Zs B D C)) (g0:w.cell? ⟨b,off+3,Zn⟩=Zo (Zi Zk E)) (g1:w.cell? ⟨b,off+3+1,Zn⟩=Zo (Zs F H G)) (g2:w.cell? ⟨b,off+3+2,Zn⟩=Zo (Zs B D C)) :
  Calls prog 77 #[v,Za #[Zi Zk 33,Zi Zk x,Zt y,Zs na u t,Zs ka kl kc],Zs (Zo ⟨b,off,Zn⟩) n cap] w (iu S (M+2) (kE 4 k) 0 w):=by
 obtain⟨W,m⟩:=ii ((w.alloc (Zc #[Zi Zk 33,Zi Zk x,Zt y,Zs na u t,Zs ka kl kc] 40)).alloc (Zc #[Zi Zk 0,Zs Zn 0 0,Zs Zn 0 0] 31));have a:Bw w W:=by rw[m];exact (gx _ _).alloc zS _
 have s:w.heap.size+2<=W.heap.size:=by rw[m];simp
 have q:W.heap[w.heap.size+1]?=Zo (Zc #[Zi Zk 0,Zs Zn 0 0,Zs Zn 0 0] 31 (0,0)):=by have:=heap_alloc_new (w.alloc (Zc #[Zi Zk 33,Zi Zk x,Zt y,Zs na u t,Zs ka kl kc] 40)) (Zc #[Zi Zk 0,Zs Zn 0 0,Zs Zn 0 0] 31);rw[m];simpa using this
 have J:=a7 q;have z:=Lib.hid (kz (M+1) S 4 k _ _ _ W rfl (A.keep (a6 a r) fun _ h=>h) (fun b o=>Zd (r b o) a.size));have g:Hid (∀l c0 c1 c2,Bw W l->a8 (Ov S W.heap.size Zn l) l (M+2) (kE 4 k) c0 c1 c2->iu S (M+2) _ 0 w (Zr (Zu #[Za #[c0,c1,c2],Zi Zk 0])) (((l.setCell ⟨w.heap.size+1,0,Zn⟩ c0).setCell ⟨w.heap.size+1,1,Zn⟩ c1).setCell ⟨w.heap.size+1,2,Zn⟩ c2)):=fun l c0 c1 c2 c d=>ju r (a.trans (c.mono a.size)) (oT s d);have f:∀i j:Obj,Bw w ((w.alloc i).alloc j):=fun i j=>(gx _ _).alloc zS _;have g0:=fun i j=>((f i j).cell (p:=⟨b,off+3,Zn⟩) o).trans g0;have g1:=fun i j=>((f i j).cell (p:=⟨b,off+3+1,Zn⟩) o).trans g1;have g2:=fun i j=>((f i j).cell (p:=⟨b,off+3+2,Zn⟩) o).trans g2;clear A r a q f;go_in;go_wp2_with fail;rw[<- m];refine z.out.mono ?_;rintro e l ⟨c,Y,Z,d2,rfl,d⟩;obtain⟨P,Q,T,R,U,X,V,rfl,rfl,rfl⟩:=d.shape;obtain⟨⟨L,N,O⟩,f0,f1,f2⟩:=fY ((c.block (w.heap.size+1) om).trans J.out);have I:=Lib.hid (g.out l _ _ _ c d);clear c m g z d;go_wp2_with fail;refine bodyPost_ret (v:=Zu #[Za #[Zi Zk P,Zs Q T R,Zs U X V],Zi Zk 0]) (by simp[results,results77,go_sem,L,N,O]) rfl ?_;exact I.out
theorem mO (op:Int) (f:op=19∨op=20∨op=31∨op=32∨op=35) (M:Nat) (S:ZP) (x:Int) (y:ZN) (na ka:ZO) (u t kl kc:Nat) (v:Zv) (w:Zw) (q:Bd S w) (b off n cap:Nat) (e:b<w.heap.size) (z:(1:Int)<(n:Int)) (j:Int) (l g:ZO) (o m i h:Nat) (k:K (M+1)) (r:a8 S w (M+1) k (Zi Zk j) (Zs l o m) (Zs g i h)) (g0:w.cell? ⟨b,off+3,Zn⟩=Zo (Zi Zk j)) (g1:w.cell? ⟨b,off+3+1,Zn⟩=Zo (Zs l o m)) (g2:w.cell? ⟨b,off+3+2,Zn⟩=Zo (Zs g i h)) :
  Calls prog 77 #[v,Za #[Zi Zk op,Zi Zk x,Zt y,Zs na u t,Zs ka kl kc],Zs (Zo ⟨b,off,Zn⟩) n cap] w (iu S (M+2) (pq k) 0 w):=by
 have s:=Lib.hid (sX q (r.cp (L:=M+1) om));have a:∀c d:Obj,Bw w ((w.alloc c).alloc d):=fun c d=>(gx _ _).alloc zS _;have g0:=fun c d=>((a c d).cell (p:=⟨b,off+3,Zn⟩) e).trans g0;have g1:=fun c d=>((a c d).cell (p:=⟨b,off+3+1,Zn⟩) e).trans g1;have g2:=fun c d=>((a c d).cell (p:=⟨b,off+3+2,Zn⟩) e).trans g2;clear r q a;rcases f with rfl|rfl|rfl|rfl|rfl;all_goals
  go_in
  go_wp2_with fail
  refine bodyPost_ret (v:=Zu #[Za #[Zi Zk j,Zs l o m,Zs g i h],Zi Zk 0]) (by simp[results,results77,go_sem]) rfl ?_
  exact s.out _ _
theorem qF (op:Int) (f:op=27∨op=28∨op=34) (M:Nat) (S:ZP) (x:Int) (y:ZN) (na ka:ZO) (u t kl kc:Nat) (v:Zv) (w:Zw) (q:Bd S w) (b off n cap:Nat) (e:b<w.heap.size) (z:0<n) (j:Int) (l g:ZO) (o m i h:Nat) (k:K (M+1)) (r:a8 S w (M+1) k (Zi Zk j) (Zs l o m) (Zs g i h)) (g0:w.cell? ⟨b,off,Zn⟩=Zo (Zi Zk j)) (g1:w.cell? ⟨b,off+1,Zn⟩=Zo (Zs l o m)) (g2:w.cell? ⟨b,off+2,Zn⟩=Zo (Zs g i h)) :
  Calls prog 77 #[v,Za #[Zi Zk op,Zi Zk x,Zt y,Zs na u t,Zs ka kl kc],Zs (Zo ⟨b,off,Zn⟩) n cap] w (iu S (M+2) (pq k) 0 w):=by
 have s:=Lib.hid (sX q (r.cp (L:=M+1) om));have a:∀c d:Obj,Bw w ((w.alloc c).alloc d):=fun c d=>(gx _ _).alloc zS _;have g0:=fun c d=>((a c d).cell (p:=⟨b,off,Zn⟩) e).trans g0;have g1:=fun c d=>((a c d).cell (p:=⟨b,off+1,Zn⟩) e).trans g1;have g2:=fun c d=>((a c d).cell (p:=⟨b,off+2,Zn⟩) e).trans g2;clear r q a;rcases f with rfl|rfl|rfl;all_goals
  go_in
  go_wp2_with fail
  refine bodyPost_ret (v:=Zu #[Za #[Zi Zk j,Zs l o m,Zs g i h],Zi Zk 0]) (by simp[results,results77,go_sem]) rfl ?_
  exact s.out _ _
theorem G9 (M:Nat) (S:ZP) (D:Int) (E:ZN) (na ka:ZO) (C B kl kc:Nat) (v:Zv) (w:Zw) (t:Bd S w) (b off n cap:Nat) (z:b<w.heap.size) (F:0<n) (f a x i:Nat) (h:f<w.heap.size) (A:0<x) (g:w.cell? ⟨b,off+2,Zn⟩=Zo (Zs (Zo ⟨f,a,Zn⟩) x i)) (o:Int) (q j:ZO) (s r m l:Nat) (k:K (M+1)) (u:a8 S w (M+1) k (Zi Zk o) (Zs q s r) (Zs j m l)) (g0:w.cell? ⟨f,a,Zn⟩=Zo (Zi Zk o)) (g1:w.cell? ⟨f,a+1,Zn⟩=Zo (Zs q s r)) (g2:w.cell? ⟨f,a+2,Zn⟩=Zo (Zs j m l)) :
  Calls prog 77 #[v,Za #[Zi Zk 25,Zi Zk D,Zt E,Zs na C B,Zs ka kl kc],Zs (Zo ⟨b,off,Zn⟩) n cap] w (iu S (M+2) (pq k) 0 w):=by have y:=Lib.hid (sX t (u.cp (L:=M+1) om));have c:∀d e:Obj,Bw w ((w.alloc d).alloc e):=fun d e=>(gx _ _).alloc zS _;have g:=fun d e=>((c d e).cell (p:=⟨b,off+2,Zn⟩) z).trans g;have g0:=fun d e=>((c d e).cell (p:=⟨f,a,Zn⟩) h).trans g0;have g1:=fun d e=>((c d e).cell (p:=⟨f,a+1,Zn⟩) h).trans g1;have g2:=fun d e=>((c d e).cell (p:=⟨f,a+2,Zn⟩) h).trans g2;clear u t c;go_in;go_wp2_with fail;refine bodyPost_ret (v:=Zu #[Za #[Zi Zk o,Zs q s r,Zs j m l],Zi Zk 0]) (by simp[results,results77,go_sem]) rfl ?_;exact y.out _ _
theorem Ha (M:Nat) (S:ZP) (p:Int) (q:ZN) (na ka:ZO) (o n kl kc:Nat) (v:Zv) (F:Zv) (w:Zw) (m:Bd S w) :
  Calls prog 77 #[v,Za #[Zi Zk 30,Zi Zk p,Zt q,Zs na o n,Zs ka kl kc],F] w (iu S (M+2) (kE 6 (iA 1)) 0 w):=by
 obtain⟨W,i⟩:=ii ((w.alloc (Zc #[Zi Zk 30,Zi Zk p,Zt q,Zs na o n,Zs ka kl kc] 40)).alloc (Zc #[Zi Zk 0,Zs Zn 0 0,Zs Zn 0 0] 31));have f:Bw w W:=by rw[i];exact (gx _ _).alloc zS _
 have H:w.heap.size+2<=W.heap.size:=by rw[i];simp
 have k:W.heap[w.heap.size+1]?=Zo (Zc #[Zi Zk 0,Zs Zn 0 0,Zs Zn 0 0] 31 (0,0)):=by have:=heap_alloc_new (w.alloc (Zc #[Zi Zk 30,Zi Zk p,Zt q,Zs na o n,Zs ka kl kc] 40)) (Zc #[Zi Zk 0,Zs Zn 0 0,Zs Zn 0 0] 31);rw[i];simpa using this
 have E:=a7 k;have A:=Lib.hid (vD 1 W);have B:Hid (∀g,Bw W g->Calls prog 104 #[Zi Zk 6,Za #[Zi Zk 1,Zs Zn 0 0,Zs Zn 0 0]] g fun e l=>Bw W l/\∃c0 c1 c2,e=Zr (Za #[c0,c1,c2])/\iu S (M+2) (kE 6 (iA 1)) 0 w (Zr (Zu #[Za #[c0,c1,c2],Zi Zk 0])) (((l.setCell ⟨w.heap.size+1,0,Zn⟩ c0).setCell ⟨w.heap.size+1,1,Zn⟩ c1).setCell ⟨w.heap.size+1,2,Zn⟩ c2)/\∃r s u t x z y,c0=Zi Zk r/\c1=Zs s u t/\c2=Zs x z y):=fun g a=>by have d:=f.trans (a.mono f.size);refine (kz (M+1) S 6 (iA 1) _ _ _ g rfl (yR rfl) (fun b G=>Zd (m b G) d.size)).mono ?_;rintro e l ⟨c,c0,c1,c2,rfl,j⟩;exact⟨a.trans (c.mono a.size),c0,c1,c2,rfl,ju m (d.trans (c.mono d.size)) (oT (by have:=a.size;omega) j),j.shape⟩
 clear m f k;go_in;go_wp2_with fail;rw[<- i];refine A.out.mono ?_;rintro e g ⟨rfl,a⟩;have h:=Lib.hid (B.out g a);clear a A B i;go_wp2_with fail;refine h.out.mono ?_;rintro e l ⟨c,L,N,O,rfl,C,r,s,u,t,x,z,y,rfl,rfl,rfl⟩;obtain⟨⟨I,J,K⟩,f0,f1,f2⟩:=fY ((c.block (w.heap.size+1) om).trans E.out);have D:=Lib.hid C;clear c h C;go_wp2_with fail;refine bodyPost_ret (v:=Zu #[Za #[Zi Zk r,Zs s u t,Zs x z y],Zi Zk 0]) (by simp[results,results77,go_sem,I,J,K]) rfl ?_;exact D.out
theorem vw(a b:jE M)(x:ZN)(h:∀p,p∈a->p.1≠x):iX (a++b) x=iX b x:=by
 induction a with
 | nil=>rfl
 | cons p r e=>obtain⟨s,k⟩:=p;have c:s≠x:=h (s,k) (List.mem_cons_self ..);rw[List.cons_append,iX,if_neg c];exact e fun q d=>h q (List.mem_cons_of_mem _ d)
theorem Fy(l:List (ZN×K (M+1)))(x:ZN)(i:Nat)(hi:i<l.length)(b:l[i].1=x)(c:∀j (h:j<l.length),i<j->l[j].1≠x):iX l.reverse x=Zo l[i].2:=by
 have e:l=l.take i++(l[i] :: l.drop (i+1)):=by rw[<- List.drop_eq_getElem_cons hi,List.take_append_drop]
 have a:l.reverse=(l.drop (i+1)).reverse++(l[i] :: (l.take i).reverse):=by
  conv=>lhs;rw[e]
  simp
 rw[a,vw];·rw[iX,if_pos b]
 ·intro p d;obtain⟨j,f,rfl⟩:=List.getElem_of_mem (List.mem_reverse.1 d);rw[List.getElem_drop];exact c _ _ om
theorem Fz(l:List (ZN×K (M+1)))(x:ZN)(b:∀j (h:j<l.length),l[j].1≠x):iX l.reverse x=Zn:=by have:=vw (M:=M) l.reverse [] x (fun p c=>by obtain⟨j,a,rfl⟩:=List.getElem_of_mem (List.mem_reverse.1 c);exact b j a);rw[List.append_nil]at this;exact this
def nF{M:Nat}(env:jE M)(x:ZN):K (M+2)×Int:=match iX env x with|Zo k=>(pq k,0)|Zn=>(zU,5)
theorem IY (M:Nat) (S:ZP) (x1:Int) (x2:ZN) (ka:ZO) (P Z kl kc:Nat) (v:Zv) (bv:Zv) (w:Zw) (hB:Bd S w) (l:List (ZN × K (M+1))) (hv:jf S w (M+1) l v) (hl:l.length<=3000000) (p q:Nat) (nm:ZN) (hp:p<w.heap.size) (ai:0<P) (g:w.cell? ⟨p,q,Zn⟩=Zo (Zt nm)) :
  Calls prog 77 #[v,Za #[Zi Zk 4,Zi Zk x1,Zt x2,Zs (Zo ⟨p,q,Zn⟩) P Z,Zs ka kl kc],bv] w (iu S (M+2) (nF l.reverse nm).1 (nF l.reverse nm).2 w):=by
 obtain⟨W,O⟩:=ii ((w.alloc (Zc #[Zi Zk 4,Zi Zk x1,Zt x2,Zs (Zo ⟨p,q,Zn⟩) P Z,Zs ka kl kc] 40)).alloc (Zc #[Zi Zk 0,Zs Zn 0 0,Zs Zn 0 0] 31));have c:Bw w W:=by rw[O];exact (gx _ _).alloc zS _
 have al:w.heap.size+2<=W.heap.size:=by rw[O];simp
 have Y:W.heap[w.heap.size+1]?=Zo (Zc #[Zi Zk 0,Zs Zn 0 0,Zs Zn 0 0] 31 (0,0)):=by have:=heap_alloc_new (w.alloc (Zc #[Zi Zk 4,Zi Zk x1,Zt x2,Zs (Zo ⟨p,q,Zn⟩) P Z,Zs ka kl kc] 40)) (Zc #[Zi Zk 0,Zs Zn 0 0,Zs Zn 0 0] 31);rw[O];simpa using this
 have T:W.heap[w.heap.size]?=Zo (Zc #[Zi Zk 4,Zi Zk x1,Zt x2,Zs (Zo ⟨p,q,Zn⟩) P Z,Zs ka kl kc] 40 (0,0)):=by rw[O,Zh _ _ _ zS];exact heap_alloc_new _ _
 obtain⟨z0,z1,z2,z3,z4⟩:=fZ T;have g:=kC c g hp;obtain⟨ao,cap,rfl,-,t⟩:=id hv;obtain⟨⟨r0,r1,r2⟩,f0,f1,f2⟩:=fY Y;have ab:Hid (∀ i (h:i<l.length),∃ b off H I N J E G F,ao=Zo ⟨b,off,Zn⟩/\W.cell? ⟨b,off+i*4,Zn⟩=Zo (Zt l[i].1)/\(W.cell? ⟨b,off+i*4+1,Zn⟩=Zo (Zi Zk H)/\W.cell? ⟨b,off+i*4+1+1,Zn⟩=Zo (Zs I N J)/\W.cell? ⟨b,off+i*4+1+2,Zn⟩=Zo (Zs E G F)) /\
   ∀V:Zw,V.heap=W.heap->Bw w V->l[i].1=nm->(∀j (h:j<l.length),i<j->l[j].1≠nm)->iu S (M+2) (nF l.reverse nm).1 (nF l.reverse nm).2 w (Zr (Zu #[Za #[Zi Zk H,Zs I N J,Zs E G F],Zi Zk 0])) (((V.setCell ⟨w.heap.size+1,0,Zn⟩ (Zi Zk H)).setCell ⟨w.heap.size+1,1,Zn⟩ (Zs I N J)).setCell ⟨w.heap.size+1,2,Zn⟩ (Zs E G F))):=fun i hi=>by
  obtain⟨b,off,ha,hb,B⟩:=t (fun e=>by rw[e]at hi;simp at hi)
  obtain⟨c0,c1,c2,e,e0,e1,e2,aj,hk⟩:=B i hi
  obtain⟨H,I,N,J,E,G,F,rfl,rfl,rfl⟩:=hk.shape
  have r:=hB b hb
  refine⟨b,off,H,I,N,J,E,G,F,ha,kC c e r,⟨kC c e0 r,kC c e1 r,kC c e2 r⟩,fun V _ s he D=>?_⟩
  have hr:nF l.reverse nm=(pq l[i].2,0):=by unfold nF;rw[Fy l nm i hi he D]
  rw[hr]
  exact ju hB s ((hk.cp (L:=M+1) om).keep (a6 s hB) fun _ h=>.inl h)
 have HN:Hid (∀V,Bw w V->(∀j (h:j<l.length),l[j].1≠nm)->iu S (M+2) (nF l.reverse nm).1 (nF l.reverse nm).2 w (Zr (Zu #[Za #[Zi Zk 0,Zs Zn 0 0,Zs Zn 0 0],Zi Zk 5])) (((V.setCell ⟨w.heap.size+1,0,Zn⟩ (Zi Zk 0)).setCell ⟨w.heap.size+1,1,Zn⟩ (Zs Zn 0 0)).setCell ⟨w.heap.size+1,2,Zn⟩ (Zs Zn 0 0))):=fun V ad D=>by
  have hr:nF l.reverse nm=(zU,5):=by unfold nF;rw[Fz l nm D]
  rw[hr];exact sW (iG ad om) (show (5:Int)≠0 by decide)
 obtain⟨n,D⟩:∃n,l.length=n:=⟨_,rfl⟩;have Q:=a7 D;rw[D]at hl ⊢;have ak:IntKind.i64.wrap ((n:Int)-1)=(n:Int)-1:=by rw[IntKind.wrap_i64];omega
 have HC:Hid (∀V:Zw,V.heap=W.heap->V.cell? ⟨w.heap.size,3,Zn⟩=Zo (Zs (Zo ⟨p,q,Zn⟩) P Z)/\V.cell? ⟨p,q,Zn⟩=Zo (Zt nm)/\(V.cell? ⟨w.heap.size+1,0,Zn⟩=Zo (Zi Zk 0)/\V.cell? ⟨w.heap.size+1,1,Zn⟩=Zo (Zs Zn 0 0)/\V.cell? ⟨w.heap.size+1,2,Zn⟩=Zo (Zs Zn 0 0))/\V.frozen? ⟨w.heap.size+1,0,Zn⟩=false/\V.frozen? ⟨w.heap.size+1,1,Zn⟩=false/\V.frozen? ⟨w.heap.size+1,2,Zn⟩=false):=fun V R=>by have t:∀a,V.cell? a=W.cell? a:=fun a=>World.cell?_of_block (by rw[R]);have hf:∀a,V.frozen? a=W.frozen? a:=fun a=>World.frozen?_of_block (by rw[R]);exact⟨(t _).trans z3,(t _).trans g,⟨(t _).trans r0,(t _).trans r1,(t _).trans r2⟩,(hf _).trans f0,(hf _).trans f1,(hf _).trans f2⟩
 have aa:=a7 c;clear hv t hB c Y T D z0 z1 z2 z3 z4 g r0 r1 r2 f0 f1 f2;go_in;go_wp2_with fail;rw[<- O];clear O;go_loopw [8] (fun iv wr=>∃(x:Int)(j:Nat),iv=Zi Zk x/\x=(j:Int)-1/\j<=n/\(∀i (h:i<l.length),j<=i->l[i].1≠nm)/\wr.heap=W.heap/\Bw w wr) (fun iv _=>(intOf iv+1).toNat);case atStart=>exact⟨(n:Int)-1,n,rfl,rfl,Nat.le_refl _,fun i h hi=>absurd (Q.out ▸ h) om,rfl,aa.out⟩
 case round=>
  obtain⟨x,j,rfl,hx,hj,X,C,U⟩:=hrel;have z:=Lib.hid X;obtain⟨c3,cg,⟨c0,c1,c2⟩,d0,d1,d2⟩:=HC.out wr C;have o:=Lib.hid C;have m:=a7 U;clear X C U;cases j with
  | zero=>
   obtain rfl:x = -1:=by simpa using hx
   have HF:=Lib.hid (HN.out wr m.out (fun j h=>z.out j h (Nat.zero_le _)));clear hx;go_wp2_with fail;refine bodyPost_ret (v:=Zu #[Za #[Zi Zk 0,Zs Zn 0 0,Zs Zn 0 0],Zi Zk 5]) (by simp[results,results77,go_sem,c0,c1,c2]) rfl ?_;exact HF.out
  | succ i=>
   obtain rfl:x=(i:Int):=by omega
   have ae:i<l.length:=by have:=Q.out;omega
   obtain⟨b,off,H,I,N,J,E,G,F,rfl,e,⟨e0,e1,e2⟩,u⟩:=ab.out i ae;have ah:(i:Int)<(n:Int):=om;have ag:(0:Int)<=(i:Int):=om;have ac:=Lib.hid u;generalize hy:l[i].1=y at *;have HY:=Lib.hid hy;have f:∀a,wr.cell? a=W.cell? a:=fun a=>World.cell?_of_block (by rw[o.out]);have k:=(f ⟨b,off+i*4,Zn⟩).trans e;have k0:=(f ⟨b,off+i*4+1,Zn⟩).trans e0;have k1:=(f ⟨b,off+i*4+1+1,Zn⟩).trans e1;have k2:=(f ⟨b,off+i*4+1+2,Zn⟩).trans e2;have af:IntKind.i64.wrap ((i:Int)-1)=(i:Int)-1:=by rw[IntKind.wrap_i64];omega
   clear hx u hy e e0 e1 e2 f;obtain⟨V,R⟩:=ii wr;rw[<- R]at o m k k0 k1 k2 c3 cg c0 c1 c2 d0 d1 d2 ⊢;clear R;by_cases d:y=nm
   ·have s:(y.toList==nm.toList)=true:=by rw[d];simp
    have A:=Lib.hid d;clear d;go_wp2_with fail;go_quiet (fail);go_wp2_with fail;refine bodyPost_ret (v:=Zu #[Za #[Zi Zk H,Zs I N J,Zs E G F],Zi Zk 0]) (by simp[results,results77,go_sem,c0,c1,c2]) rfl ?_;exact ac.out _ o.out (below_drewN m.out _) (by rw[A.out]) (fun j h hj=>z.out j h om)
   ·have s:(y.toList==nm.toList)=false:=by rw[beq_eq_false_iff_ne];intro e;exact d (by rw[ByteArray.toList_eq,ByteArray.toList_eq]at e;exact WideShapes.bytes_inj e)
    have A:=Lib.hid d;clear d;go_wp2_with fail;go_quiet (fail);go_wp2;go_roundw;case rel=>
     refine⟨(i:Int)-1,i,?_,rfl,om,fun j h hj=>?_,o.out,below_drewN m.out _⟩;·first|rfl|rw[af]|go_num
     ·by_cases e:j=i;·subst e;rw[HY.out];exact A.out
      ·exact z.out j h om
    case measure=>(simp[intOf];try omega)
theorem IZ (M:Nat) (S:ZP) (Q:Int) (d:ZN) (na ka:ZO) (P O kl kc:Nat) (v:Zv) (bv:Zv) (w:Zw) (X:Bd S w) (hM:5<=M) (G:jV d=true) :
  Calls prog 77 #[v,Za #[Zi Zk 5,Zi Zk Q,Zt d,Zs na P O,Zs ka kl kc],bv] w (iu S (M+2) (kE 6 (qd M d)) 0 w):=by
 obtain⟨W,A⟩:=ii ((w.alloc (Zc #[Zi Zk 5,Zi Zk Q,Zt d,Zs na P O,Zs ka kl kc] 40)).alloc (Zc #[Zi Zk 0,Zs Zn 0 0,Zs Zn 0 0] 31));have z:Bw w W:=by rw[A];exact (gx _ _).alloc zS _
 have ac:w.heap.size+2<=W.heap.size:=by rw[A];simp
 have K:W.heap[w.heap.size+1]?=Zo (Zc #[Zi Zk 0,Zs Zn 0 0,Zs Zn 0 0] 31 (0,0)):=by have:=heap_alloc_new (w.alloc (Zc #[Zi Zk 5,Zi Zk Q,Zt d,Zs na P O,Zs ka kl kc] 40)) (Zc #[Zi Zk 0,Zs Zn 0 0,Zs Zn 0 0] 31);rw[A];simpa using this
 have HZ:=a7 K;obtain⟨k,N⟩:∃k,iZ (d.size+8) d=Zo k:=Option.isSome_iff_exists.1 G;obtain⟨T,I,R⟩:=kr N;have J:qd M d=fO M (d.size+8) k:=by unfold qd;rw[N]
 have t:=mL (m:=d.size+7) N;have U:Hid (Calls prog 103 #[Zt d] W fun e g=>Bw W g/\∃i j p l q s r,e=Zr (Zu #[Za #[Zi Zk i,Zs j p l,Zs q s r],.bool true])/\a8 (fun b=>W.heap.size<=b/\b<g.heap.size) g (M+1) (qd M d) (Zi Zk i) (Zs j p l) (Zs q s r)):=by refine (mD d (d.size+7) om om W).mono ?_;rintro e g ⟨c,c0,c1,c2,rfl,f⟩;rw[t.1]at f;obtain⟨i,j,p,l,q,s,r,rfl,rfl,rfl⟩:=f.shape;refine⟨c,i,j,p,l,q,s,r,by rw[t.2],?_⟩;rw[J];exact a8.okd (n:=d.size+8) I hM f
 have V:Hid (∀g i j p l q s r,Bw W g->a8 (fun b=>W.heap.size<=b/\b<g.heap.size) g (M+1) (qd M d) (Zi Zk i) (Zs j p l) (Zs q s r)->Calls prog 104 #[Zi Zk 6,Za #[Zi Zk i,Zs j p l,Zs q s r]] (g.alloc (Zc #[Zi Zk i,Zs j p l,Zs q s r] 31)) fun e L=>Bw W L/\∃c0 c1 c2,e=Zr (Za #[c0,c1,c2])/\iu S (M+2) (kE 6 (qd M d)) 0 w (Zr (Zu #[Za #[c0,c1,c2],Zi Zk 0])) (((L.setCell ⟨w.heap.size+1,0,Zn⟩ c0).setCell ⟨w.heap.size+1,1,Zn⟩ c1).setCell ⟨w.heap.size+1,2,Zn⟩ c2)/\∃i j p l q s r,c0=Zi Zk i/\c1=Zs j p l/\c2=Zs q s r):=fun g i j p l q s r c f=>by
  have C:=jp c (Zc #[Zi Zk i,Zs j p l,Zs q s r] 31);have aa:=c.size;refine (kz (M+1) (fun b=>W.heap.size<=b/\b<g.heap.size) 6 (qd M d) _ _ _ _ rfl (f.keep (fun b x=>Zh _ _ _ x.2) fun _ h=>h) (fun b x=>zE)).mono ?_;rintro e L ⟨u,c0,c1,c2,rfl,F⟩;have D:=C.trans (u.mono C.size);have ab:g.heap.size+1<=L.heap.size:=by have:=u.size;simpa using this
  refine⟨D,c0,c1,c2,rfl,ju X (z.trans (D.mono z.size)) (F.keep (fun _ _=>rfl) fun b x=>?_),F.shape⟩;rcases x with x|x;·exact .inr ⟨om,om,zS⟩
  ·have h1:g.heap.size+1<=b:=by have:=x.1;simpa using this
   exact .inr ⟨om,x.2⟩
 clear X z K N I R J t G T;go_in;go_wp2_with fail;rw[<- A];refine U.out.mono ?_;rintro e g ⟨c,i,j,p,l,q,s,r,rfl,f⟩;have B:=Lib.hid (V.out g i j p l q s r c f);have E:=c.block w.heap.size om;have y:W.heap[w.heap.size]?=Zo (Zc #[Zi Zk 5,Zi Zk Q,Zt d,Zs na P O,Zs ka kl kc] 40 (0,0)):=by rw[A,Zh _ _ _ zS];exact heap_alloc_new _ _
 obtain⟨z0,z1,z2,z3,z4⟩:=fZ (E.trans y);have H:w.heap.size<g.heap.size:=by have:=c.size;omega
 have z0:=fun o=>(World.cell?_of_block (a:=⟨w.heap.size,0,Zn⟩) (Zh g o _ H)).trans z0;clear c U V A f E y z1 z2 z3 z4;go_wp2_with fail;refine B.out.mono ?_;rintro e L ⟨u,d0,d1,d2,rfl,Y,i,j,p,l,q,s,r,rfl,rfl,rfl⟩;obtain⟨⟨r0,r1,r2⟩,f0,f1,f2⟩:=fY ((u.block (w.heap.size+1) om).trans HZ.out);have Z:=Lib.hid Y;clear u B Y;go_wp2_with fail;refine bodyPost_ret (v:=Zu #[Za #[Zi Zk i,Zs j p l,Zs q s r],Zi Zk 0]) (by simp[results,results77,go_sem,r0,r1,r2]) rfl ?_;exact Z.out
theorem I0 (M:Nat) (S:ZP) (Q:Int) (d:ZN) (na ka:ZO) (P O kl kc:Nat) (v:Zv) (bv:Zv) (w:Zw) (X:Bd S w) (hM:5<=M) (G:jV d=true) :
  Calls prog 77 #[v,Za #[Zi Zk 6,Zi Zk Q,Zt d,Zs na P O,Zs ka kl kc],bv] w (iu S (M+2) (kE 4 (qd M d)) 0 w):=by
 obtain⟨W,A⟩:=ii ((w.alloc (Zc #[Zi Zk 6,Zi Zk Q,Zt d,Zs na P O,Zs ka kl kc] 40)).alloc (Zc #[Zi Zk 0,Zs Zn 0 0,Zs Zn 0 0] 31));have z:Bw w W:=by rw[A];exact (gx _ _).alloc zS _
 have ac:w.heap.size+2<=W.heap.size:=by rw[A];simp
 have K:W.heap[w.heap.size+1]?=Zo (Zc #[Zi Zk 0,Zs Zn 0 0,Zs Zn 0 0] 31 (0,0)):=by have:=heap_alloc_new (w.alloc (Zc #[Zi Zk 6,Zi Zk Q,Zt d,Zs na P O,Zs ka kl kc] 40)) (Zc #[Zi Zk 0,Zs Zn 0 0,Zs Zn 0 0] 31);rw[A];simpa using this
 have HZ:=a7 K;obtain⟨k,N⟩:∃k,iZ (d.size+8) d=Zo k:=Option.isSome_iff_exists.1 G;obtain⟨T,I,R⟩:=kr N;have J:qd M d=fO M (d.size+8) k:=by unfold qd;rw[N]
 have t:=mL (m:=d.size+7) N;have U:Hid (Calls prog 103 #[Zt d] W fun e g=>Bw W g/\∃i j p l q s r,e=Zr (Zu #[Za #[Zi Zk i,Zs j p l,Zs q s r],.bool true])/\a8 (fun b=>W.heap.size<=b/\b<g.heap.size) g (M+1) (qd M d) (Zi Zk i) (Zs j p l) (Zs q s r)):=by refine (mD d (d.size+7) om om W).mono ?_;rintro e g ⟨c,c0,c1,c2,rfl,f⟩;rw[t.1]at f;obtain⟨i,j,p,l,q,s,r,rfl,rfl,rfl⟩:=f.shape;refine⟨c,i,j,p,l,q,s,r,by rw[t.2],?_⟩;rw[J];exact a8.okd (n:=d.size+8) I hM f
 have V:Hid (∀g i j p l q s r,Bw W g->a8 (fun b=>W.heap.size<=b/\b<g.heap.size) g (M+1) (qd M d) (Zi Zk i) (Zs j p l) (Zs q s r)->Calls prog 104 #[Zi Zk 4,Za #[Zi Zk i,Zs j p l,Zs q s r]] (g.alloc (Zc #[Zi Zk i,Zs j p l,Zs q s r] 31)) fun e L=>Bw W L/\∃c0 c1 c2,e=Zr (Za #[c0,c1,c2])/\iu S (M+2) (kE 4 (qd M d)) 0 w (Zr (Zu #[Za #[c0,c1,c2],Zi Zk 0])) (((L.setCell ⟨w.heap.size+1,0,Zn⟩ c0).setCell ⟨w.heap.size+1,1,Zn⟩ c1).setCell ⟨w.heap.size+1,2,Zn⟩ c2)/\∃i j p l q s r,c0=Zi Zk i/\c1=Zs j p l/\c2=Zs q s r):=fun g i j p l q s r c f=>by
  have C:=jp c (Zc #[Zi Zk i,Zs j p l,Zs q s r] 31);have aa:=c.size;refine (kz (M+1) (fun b=>W.heap.size<=b/\b<g.heap.size) 4 (qd M d) _ _ _ _ rfl (f.keep (fun b x=>Zh _ _ _ x.2) fun _ h=>h) (fun b x=>zE)).mono ?_;rintro e L ⟨u,c0,c1,c2,rfl,F⟩;have D:=C.trans (u.mono C.size);have ab:g.heap.size+1<=L.heap.size:=by have:=u.size;simpa using this
  refine⟨D,c0,c1,c2,rfl,ju X (z.trans (D.mono z.size)) (F.keep (fun _ _=>rfl) fun b x=>?_),F.shape⟩;rcases x with x|x;·exact .inr ⟨om,om,zS⟩
  ·have h1:g.heap.size+1<=b:=by have:=x.1;simpa using this
   exact .inr ⟨om,x.2⟩
 clear X z K N I R J t G T;go_in;go_wp2_with fail;rw[<- A];refine U.out.mono ?_;rintro e g ⟨c,i,j,p,l,q,s,r,rfl,f⟩;have B:=Lib.hid (V.out g i j p l q s r c f);have E:=c.block w.heap.size om;have y:W.heap[w.heap.size]?=Zo (Zc #[Zi Zk 6,Zi Zk Q,Zt d,Zs na P O,Zs ka kl kc] 40 (0,0)):=by rw[A,Zh _ _ _ zS];exact heap_alloc_new _ _
 obtain⟨z0,z1,z2,z3,z4⟩:=fZ (E.trans y);have H:w.heap.size<g.heap.size:=by have:=c.size;omega
 have z0:=fun o=>(World.cell?_of_block (a:=⟨w.heap.size,0,Zn⟩) (Zh g o _ H)).trans z0;clear c U V A f E y z1 z2 z3 z4;go_wp2_with fail;refine B.out.mono ?_;rintro e L ⟨u,d0,d1,d2,rfl,Y,i,j,p,l,q,s,r,rfl,rfl,rfl⟩;obtain⟨⟨r0,r1,r2⟩,f0,f1,f2⟩:=fY ((u.block (w.heap.size+1) om).trans HZ.out);have Z:=Lib.hid Y;clear u B Y;go_wp2_with fail;refine bodyPost_ret (v:=Zu #[Za #[Zi Zk i,Zs j p l,Zs q s r],Zi Zk 0]) (by simp[results,results77,go_sem,r0,r1,r2]) rfl ?_;exact Z.out
theorem G8 (M:Nat) (S:ZP) (T:Int) (U:ZN) (na ka:ZO) (d D kl kc:Nat) (v:Zv) (X:Zv) (w:Zw) (R:Bd S w) (e:List ZN) (ks:List (K (M+1))) (hn:fL S w e (Zs na d D)) (x:e.length=d) (ab:d<=1000) (L:∀ s,s∈e->s.size<=10000) (hr:gO S w (a8 S w (M+1)) ks X) :
  Calls prog 77 #[v,Za #[Zi Zk 24,Zi Zk T,Zt U,Zs na d D,Zs ka kl kc],X] w (iu S (M+2) (⟨5,e,ks⟩:Kd (K (M+1))) 0 w):=by
 obtain⟨W,C⟩:=ii ((w.alloc (Zc #[Zi Zk 24,Zi Zk T,Zt U,Zs na d D,Zs ka kl kc] 40)).alloc (Zc #[Zi Zk 0,Zs Zn 0 0,Zs Zn 0 0] 31));have f:Bw w W:=by rw[C];exact (gx _ _).alloc zS _
 have ac:w.heap.size+2<=W.heap.size:=by rw[C];simp
 have Q:W.heap[w.heap.size+1]?=Zo (Zc #[Zi Zk 0,Zs Zn 0 0,Zs Zn 0 0] 31 (0,0)):=by have:=heap_alloc_new (w.alloc (Zc #[Zi Zk 24,Zi Zk T,Zt U,Zs na d D,Zs ka kl kc] 40)) (Zc #[Zi Zk 0,Zs Zn 0 0,Zs Zn 0 0] 31);rw[C];simpa using this
 have H:W.heap[w.heap.size]?=Zo (Zc #[Zi Zk 24,Zi Zk T,Zt U,Zs na d D,Zs ka kl kc] 40 (0,0)):=by rw[C,Zh _ _ _ zS];exact heap_alloc_new _ _
 obtain⟨z0,z1,z2,z3,z4⟩:=fZ H;have HZ:=a7 Q;obtain⟨z,B,A,rfl⟩:∃a l c,X=Zs a l c:=by obtain⟨ao,cap,hv,-⟩:=hr;exact⟨_,_,_,hv⟩
 have F:Hid (∀V,Bw W V->(e.map Value.string).length=d*1/\(∀u∈e.map Value.string,u.oneCell'=true)/\(0<d->∃ad,na=Zo ad/\∀j u,(e.map Value.string)[j]?=Zo u->V.cell? (ad.add j)=Zo u)):=fun V hV=>Ea x hn (a6 (f.trans (hV.mono f.size)) R);have p:Hid (∀(r:Zw)(g cap:Nat),Bw W r->r.ownsRow W.heap.size 9 1 (Zs (Zo ⟨g,0,Zn⟩) d cap) d (e.map Value.string)->iu S (M+2) (⟨5,e,ks⟩:Kd (K (M+1))) 0 w (Zr (Zu #[Za #[Zi Zk 5,Zs (Zo ⟨g,0,Zn⟩) d cap,Zs z B A],Zi Zk 0])) (((r.setCell ⟨w.heap.size+1,0,Zn⟩ (Zi Zk 5)).setCell ⟨w.heap.size+1,1,Zn⟩ (Zs (Zo ⟨g,0,Zn⟩) d cap)).setCell ⟨w.heap.size+1,2,Zn⟩ (Zs z B A))):=fun r g cap i b=>by
  have G:=f.trans (i.mono f.size);have hg:=fU b g rfl;refine ju R G ⟨rfl,rfl,?_,?_⟩
  ·have y:r.ownsRow W.heap.size 9 1 (Zs (Zo ⟨g,0,Zn⟩) d cap) e.length (e.map Value.string):=by rw[x];exact b
   exact kg y (by show e.length<=_;omega) L fun g' I=>.inr ⟨by have:=fU b g' I;omega,(fU b g' I).2,zS⟩
  ·exact hr.keepK (a6 G R) fun _ h=>.inl h
 obtain⟨aa,J,N,O,P⟩:=info_parts Tryz.info_strD;have m:Hid (_/\_/\_/\_):=⟨J,N,O,P⟩;have t:=(Below.refl W.heap.size W).alloc (Nat.le_refl _) (Zc #[] 9);have n:=Lib.hid (F.out _ t);have E:=a7 t;have e3:=fun o:Obj=>(World.cell?_of_block (a:=⟨w.heap.size,3,Zn⟩) (Zh W o w.heap.size om)).trans z3;clear R f Q hn hr L J N O P H z0 z1 z2 z3 z4 F x t;go_in;go_upto_region 51 with fail;rw[<- C];clear C;go_wp2_with (at_builtin;refine zR _ rfl (.tmp 144) (.tmp 146) 23 rfl W.heap.size 9 aa _ 1 16 underlying23 m.out.1 m.out.2.1 m.out.2.2.1 m.out.2.2.2 rfl zC W.heap.size rfl (heap_alloc_new W _) (Nat.le_refl _) na d D (e.map Value.string) rfl n.out.1 n.out.2.2 n.out.2.1 (by unfold maxLen;omega) om (W.heap.size+1) zS ?_;intro g cap r b k Y Z;refine Hid.out ?_);refine Lib.hid ?_;have i:Bw W r:=E.out.grown k zS (fun q hq=>by cases hq;omega);obtain⟨⟨r0,r1,r2⟩,f0,f1,f2⟩:=fY ((i.block (w.heap.size+1) om).trans HZ.out);have HF:=Lib.hid (p.out r g cap i b);clear i b k Y Z p E n e3;go_wp2_with fail;refine bodyPost_ret (v:=Zu #[Za #[Zi Zk 5,Zs (Zo ⟨g,0,Zn⟩) d cap,Zs z B A],Zi Zk 0]) (by simp[results,results77,go_sem,r0,r1,r2]) rfl ?_;exact HF.out
theorem Al (M:Nat) (S:ZP) (r:Int) (s:ZN) (ka:ZO) (i k kl kc:Nat) (v:Zv) (w:Zw) (A:Bd S w) (p q:Nat) (nm:ZN) (E:p<w.heap.size) (D:0<i) (g:w.cell? ⟨p,q,Zn⟩=Zo (Zt nm)) (b off n cap:Nat) (C:b<w.heap.size) (H:0<n) (c:ZO) (f d:Nat) (g1:w.cell? ⟨b,off+1,Zn⟩=Zo (Zs c f d)) (z:∀ V,Bw w V->Calls prog 105 #[Zs c f d,Zt nm] V fun e o=>e=Zr (Zi Zk (-1))/\o=V) :
  Calls prog 77 #[v,Za #[Zi Zk 21,Zi Zk r,Zt s,Zs (Zo ⟨p,q,Zn⟩) i k,Zs ka kl kc],Zs (Zo ⟨b,off,Zn⟩) n cap] w (iu S (M+2) (zU:K (M+2)) 8 w):=by
 obtain⟨W,j⟩:=ii ((w.alloc (Zc #[Zi Zk 21,Zi Zk r,Zt s,Zs (Zo ⟨p,q,Zn⟩) i k,Zs ka kl kc] 40)).alloc (Zc #[Zi Zk 0,Zs Zn 0 0,Zs Zn 0 0] 31));have a:Bw w W:=by rw[j];exact (gx _ _).alloc zS _
 have F:w.heap.size+2<=W.heap.size:=by rw[j];simp
 have m:W.heap[w.heap.size+1]?=Zo (Zc #[Zi Zk 0,Zs Zn 0 0,Zs Zn 0 0] 31 (0,0)):=by have:=heap_alloc_new (w.alloc (Zc #[Zi Zk 21,Zi Zk r,Zt s,Zs (Zo ⟨p,q,Zn⟩) i k,Zs ka kl kc] 40)) (Zc #[Zi Zk 0,Zs Zn 0 0,Zs Zn 0 0] 31);rw[j];simpa using this
 have l:W.heap[w.heap.size]?=Zo (Zc #[Zi Zk 21,Zi Zk r,Zt s,Zs (Zo ⟨p,q,Zn⟩) i k,Zs ka kl kc] 40 (0,0)):=by rw[j,Zh _ _ _ zS];exact heap_alloc_new _ _
 obtain⟨z0,G,z2,z3,z4⟩:=fZ l;have g:=kC a g E;have g1:=kC a g1 C;obtain⟨⟨u,x,y⟩,f0,f1,f2⟩:=fY m;have h:Bw w W.drew:=a.drew;have t:=Lib.hid (z W.drew h);have B:Hid (iu S (M+2) (zU:K (M+2)) 8 w (Zr (Zu #[Za #[Zi Zk 0,Zs Zn 0 0,Zs Zn 0 0],Zi Zk 8])) (((W.drew.setCell ⟨w.heap.size+1,0,Zn⟩ (Zi Zk 0)).setCell ⟨w.heap.size+1,1,Zn⟩ (Zs Zn 0 0)).setCell ⟨w.heap.size+1,2,Zn⟩ (Zs Zn 0 0))):=sW (iG h om) zC;have _:=A;clear z A a h l m G z2 z4;go_in;go_upto_region 42 with fail;rw[<- j];clear j;refine wp_region_held_drew (S:=(fun o=>o.cell? ⟨w.heap.size,3,Zn⟩=Zo (Zs (Zo ⟨p,q,Zn⟩) i k)/\o.cell? ⟨p,q,Zn⟩=Zo (Zt nm)/\o.cell? ⟨b,off+1,Zn⟩=Zo (Zs c f d))) zK (by exact⟨z3,g,g1⟩) (fun hHeld=>?_);refine tk 0 ?_;refine tk 1 ?_;refine tk 2 ?_;refine tk 3 ?_;refine tk 4 ?_;refine tk 5 ?_;refine tk 6 ?_;refine tk 7 ?_;refine i6 8 fun K hK=>?_;go_simp;go_at_call 105;refine t.out.mono ?_;rintro e w1 ⟨rfl,rfl⟩;refine hK.out _ _ hHeld (fun hHeld=>?_);clear hK K;refine tk 9 ?_;refine wpAnyH_done zK ?_ _;go_simp;have z3:W.drew.cell? ⟨w.heap.size,3,Zn⟩=Zo (Zs (Zo ⟨p,q,Zn⟩) i k):=z3;have g:W.drew.cell? ⟨p,q,Zn⟩=Zo (Zt nm):=g;have g1:W.drew.cell? ⟨b,off+1,Zn⟩=Zo (Zs c f d):=g1;have z0:W.drew.cell? ⟨w.heap.size,0,Zn⟩=Zo (Zi Zk 21):=z0;have u:W.drew.cell? ⟨w.heap.size+1,0,Zn⟩=Zo (Zi Zk 0):=u;have x:W.drew.cell? ⟨w.heap.size+1,1,Zn⟩=Zo (Zs Zn 0 0):=x;have y:W.drew.cell? ⟨w.heap.size+1,2,Zn⟩=Zo (Zs Zn 0 0):=y;have f0:W.drew.frozen? ⟨w.heap.size+1,0,Zn⟩=false:=f0;have f1:W.drew.frozen? ⟨w.heap.size+1,1,Zn⟩=false:=f1;have f2:W.drew.frozen? ⟨w.heap.size+1,2,Zn⟩=false:=f2;generalize W.drew=Wd at *;go_wp2_with fail;refine bodyPost_ret (v:=Zu #[Za #[Zi Zk 0,Zs Zn 0 0,Zs Zn 0 0],Zi Zk 8]) (by simp[results,results77,go_sem,u,x,y]) rfl ?_;exact B.out
theorem Am (M:Nat) (S:ZP) (r:Int) (s:ZN) (ka:ZO) (i k kl kc:Nat) (v:Zv) (w:Zw) (A:Bd S w) (p q:Nat) (nm:ZN) (E:p<w.heap.size) (D:0<i) (g:w.cell? ⟨p,q,Zn⟩=Zo (Zt nm)) (b off n cap:Nat) (C:b<w.heap.size) (H:0<n) (c:ZO) (f d:Nat) (g1:w.cell? ⟨b,off+1,Zn⟩=Zo (Zs c f d)) (z:∀ V,Bw w V->Calls prog 105 #[Zs c f d,Zt nm] V fun e o=>e=Zr (Zi Zk (-1))/\o=V) :
  Calls prog 77 #[v,Za #[Zi Zk 23,Zi Zk r,Zt s,Zs (Zo ⟨p,q,Zn⟩) i k,Zs ka kl kc],Zs (Zo ⟨b,off,Zn⟩) n cap] w (iu S (M+2) (zU:K (M+2)) 8 w):=by
 obtain⟨W,j⟩:=ii ((w.alloc (Zc #[Zi Zk 23,Zi Zk r,Zt s,Zs (Zo ⟨p,q,Zn⟩) i k,Zs ka kl kc] 40)).alloc (Zc #[Zi Zk 0,Zs Zn 0 0,Zs Zn 0 0] 31));have a:Bw w W:=by rw[j];exact (gx _ _).alloc zS _
 have F:w.heap.size+2<=W.heap.size:=by rw[j];simp
 have m:W.heap[w.heap.size+1]?=Zo (Zc #[Zi Zk 0,Zs Zn 0 0,Zs Zn 0 0] 31 (0,0)):=by have:=heap_alloc_new (w.alloc (Zc #[Zi Zk 23,Zi Zk r,Zt s,Zs (Zo ⟨p,q,Zn⟩) i k,Zs ka kl kc] 40)) (Zc #[Zi Zk 0,Zs Zn 0 0,Zs Zn 0 0] 31);rw[j];simpa using this
 have l:W.heap[w.heap.size]?=Zo (Zc #[Zi Zk 23,Zi Zk r,Zt s,Zs (Zo ⟨p,q,Zn⟩) i k,Zs ka kl kc] 40 (0,0)):=by rw[j,Zh _ _ _ zS];exact heap_alloc_new _ _
 obtain⟨z0,G,z2,z3,z4⟩:=fZ l;have g:=kC a g E;have g1:=kC a g1 C;obtain⟨⟨u,x,y⟩,f0,f1,f2⟩:=fY m;have h:Bw w W.drew:=a.drew;have t:=Lib.hid (z W.drew h);have B:Hid (iu S (M+2) (zU:K (M+2)) 8 w (Zr (Zu #[Za #[Zi Zk 0,Zs Zn 0 0,Zs Zn 0 0],Zi Zk 8])) (((W.drew.setCell ⟨w.heap.size+1,0,Zn⟩ (Zi Zk 0)).setCell ⟨w.heap.size+1,1,Zn⟩ (Zs Zn 0 0)).setCell ⟨w.heap.size+1,2,Zn⟩ (Zs Zn 0 0))):=sW (iG h om) zC;have _:=A;clear z A a h l m G z2 z4;go_in;go_upto_region 42 with fail;rw[<- j];clear j;refine wp_region_held_drew (S:=(fun o=>o.cell? ⟨w.heap.size,3,Zn⟩=Zo (Zs (Zo ⟨p,q,Zn⟩) i k)/\o.cell? ⟨p,q,Zn⟩=Zo (Zt nm)/\o.cell? ⟨b,off+1,Zn⟩=Zo (Zs c f d))) zK (by exact⟨z3,g,g1⟩) (fun hHeld=>?_);refine tk 0 ?_;refine tk 1 ?_;refine tk 2 ?_;refine tk 3 ?_;refine tk 4 ?_;refine tk 5 ?_;refine tk 6 ?_;refine tk 7 ?_;refine i6 8 fun K hK=>?_;go_simp;go_at_call 105;refine t.out.mono ?_;rintro e w1 ⟨rfl,rfl⟩;refine hK.out _ _ hHeld (fun hHeld=>?_);clear hK K;refine tk 9 ?_;refine wpAnyH_done zK ?_ _;go_simp;have z3:W.drew.cell? ⟨w.heap.size,3,Zn⟩=Zo (Zs (Zo ⟨p,q,Zn⟩) i k):=z3;have g:W.drew.cell? ⟨p,q,Zn⟩=Zo (Zt nm):=g;have g1:W.drew.cell? ⟨b,off+1,Zn⟩=Zo (Zs c f d):=g1;have z0:W.drew.cell? ⟨w.heap.size,0,Zn⟩=Zo (Zi Zk 23):=z0;have u:W.drew.cell? ⟨w.heap.size+1,0,Zn⟩=Zo (Zi Zk 0):=u;have x:W.drew.cell? ⟨w.heap.size+1,1,Zn⟩=Zo (Zs Zn 0 0):=x;have y:W.drew.cell? ⟨w.heap.size+1,2,Zn⟩=Zo (Zs Zn 0 0):=y;have f0:W.drew.frozen? ⟨w.heap.size+1,0,Zn⟩=false:=f0;have f1:W.drew.frozen? ⟨w.heap.size+1,1,Zn⟩=false:=f1;have f2:W.drew.frozen? ⟨w.heap.size+1,2,Zn⟩=false:=f2;generalize W.drew=Wd at *;go_wp2_with fail;refine bodyPost_ret (v:=Zu #[Za #[Zi Zk 0,Zs Zn 0 0,Zs Zn 0 0],Zi Zk 8]) (by simp[results,results77,go_sem,u,x,y]) rfl ?_;exact B.out
theorem G5 (M:Nat) (S:ZP) (J:Int) (N:ZN) (ka:ZO) (r t kl kc:Nat) (v:Zv) (w:Zw) (P:Bd S w) (p q:Nat) (nm:ZN) (hp:p<w.heap.size) (ab:0<r) (g:w.cell? ⟨p,q,Zn⟩=Zo (Zt nm)) (b off n cap:Nat) (X:b<w.heap.size) (hn:0<n) (f:ZO) (l j:Nat) (g1:w.cell? ⟨b,off+1,Zn⟩=Zo (Zs f l j)) (i:Nat) (U:∀ V,Bw w V->Calls prog 105 #[Zs f l j,Zt nm] V fun e F=>e=Zr (Zi Zk (i:Int))/\F=V) (c m n3 c3:Nat) (o:c<w.heap.size) (aa:(i:Int)<(n3:Int)) (k3:w.cell? ⟨b,off+2,Zn⟩=Zo (Zs (Zo ⟨c,m,Zn⟩) n3 c3)) (z:Int) (A u:ZO) (C B y x:Nat) (k:K (M+1)) (Y:a8 S w (M+1) k (Zi Zk z) (Zs A C B) (Zs u y x)) (G:w.cell? ⟨c,m+i*3,Zn⟩=Zo (Zi Zk z)) (H:w.cell? ⟨c,m+i*3+1,Zn⟩=Zo (Zs A C B)) (I:w.cell? ⟨c,m+i*3+2,Zn⟩=Zo (Zs u y x)) :
  Calls prog 77 #[v,Za #[Zi Zk 21,Zi Zk J,Zt N,Zs (Zo ⟨p,q,Zn⟩) r t,Zs ka kl kc],Zs (Zo ⟨b,off,Zn⟩) n cap] w (iu S (M+2) (pq k) 0 w):=by
 obtain⟨W,s⟩:=ii ((w.alloc (Zc #[Zi Zk 21,Zi Zk J,Zt N,Zs (Zo ⟨p,q,Zn⟩) r t,Zs ka kl kc] 40)).alloc (Zc #[Zi Zk 0,Zs Zn 0 0,Zs Zn 0 0] 31));have a:Bw w W:=by rw[s];exact (gx _ _).alloc zS _
 have ac:w.heap.size+2<=W.heap.size:=by rw[s];simp
 have E:W.heap[w.heap.size+1]?=Zo (Zc #[Zi Zk 0,Zs Zn 0 0,Zs Zn 0 0] 31 (0,0)):=by have:=heap_alloc_new (w.alloc (Zc #[Zi Zk 21,Zi Zk J,Zt N,Zs (Zo ⟨p,q,Zn⟩) r t,Zs ka kl kc] 40)) (Zc #[Zi Zk 0,Zs Zn 0 0,Zs Zn 0 0] 31);rw[s];simpa using this
 have D:W.heap[w.heap.size]?=Zo (Zc #[Zi Zk 21,Zi Zk J,Zt N,Zs (Zo ⟨p,q,Zn⟩) r t,Zs ka kl kc] 40 (0,0)):=by rw[s,Zh _ _ _ zS];exact heap_alloc_new _ _
 obtain⟨z0,z1,z2,z3,z4⟩:=fZ D;have g:=kC a g hp;have g1:=kC a g1 X;have k3:=kC a k3 X;have G:=kC a G o;have H:=kC a H o;have I:=kC a I o;obtain⟨⟨Q,R,T⟩,f0,f1,f2⟩:=fY E;have d:Bw w W.drew:=a.drew;have O:=Lib.hid (U W.drew d);have Z:Hid (iu S (M+2) (pq k) 0 w (Zr (Zu #[Za #[Zi Zk z,Zs A C B,Zs u y x],Zi Zk 0])) (((W.drew.setCell ⟨w.heap.size+1,0,Zn⟩ (Zi Zk z)).setCell ⟨w.heap.size+1,1,Zn⟩ (Zs A C B)).setCell ⟨w.heap.size+1,2,Zn⟩ (Zs u y x))):=ju P d ((Y.cp (L:=M+1) om).keep (a6 d P) fun _ h=>.inl h);clear Y;clear U P a d D E z1 z2 z4;go_in;go_upto_region 42 with fail;rw[<- s];clear s;refine wp_region_held_drew (S:=(fun F=>F.cell? ⟨w.heap.size,3,Zn⟩=Zo (Zs (Zo ⟨p,q,Zn⟩) r t)/\F.cell? ⟨p,q,Zn⟩=Zo (Zt nm)/\F.cell? ⟨b,off+1,Zn⟩=Zo (Zs f l j))) zK (by exact⟨z3,g,g1⟩) (fun hHeld=>?_);refine tk 0 ?_;refine tk 1 ?_;refine tk 2 ?_;refine tk 3 ?_;refine tk 4 ?_;refine tk 5 ?_;refine tk 6 ?_;refine tk 7 ?_;refine i6 8 fun K hK=>?_;go_simp;go_at_call 105;refine O.out.mono ?_;rintro e w1 ⟨rfl,rfl⟩;refine hK.out _ _ hHeld (fun hHeld=>?_);clear hK K;refine tk 9 ?_;refine wpAnyH_done zK ?_ _;go_simp;have z3:W.drew.cell? ⟨w.heap.size,3,Zn⟩=Zo (Zs (Zo ⟨p,q,Zn⟩) r t):=z3;have g:W.drew.cell? ⟨p,q,Zn⟩=Zo (Zt nm):=g;have g1:W.drew.cell? ⟨b,off+1,Zn⟩=Zo (Zs f l j):=g1;have z0:W.drew.cell? ⟨w.heap.size,0,Zn⟩=Zo (Zi Zk 21):=z0;have Q:W.drew.cell? ⟨w.heap.size+1,0,Zn⟩=Zo (Zi Zk 0):=Q;have R:W.drew.cell? ⟨w.heap.size+1,1,Zn⟩=Zo (Zs Zn 0 0):=R;have T:W.drew.cell? ⟨w.heap.size+1,2,Zn⟩=Zo (Zs Zn 0 0):=T;have f0:W.drew.frozen? ⟨w.heap.size+1,0,Zn⟩=false:=f0;have f1:W.drew.frozen? ⟨w.heap.size+1,1,Zn⟩=false:=f1;have f2:W.drew.frozen? ⟨w.heap.size+1,2,Zn⟩=false:=f2;have k3:W.drew.cell? ⟨b,off+2,Zn⟩=Zo (Zs (Zo ⟨c,m,Zn⟩) n3 c3):=k3;have G:W.drew.cell? ⟨c,m+i*3,Zn⟩=Zo (Zi Zk z):=G;have H:W.drew.cell? ⟨c,m+i*3+1,Zn⟩=Zo (Zs A C B):=H;have I:W.drew.cell? ⟨c,m+i*3+2,Zn⟩=Zo (Zs u y x):=I;generalize W.drew=Wd at *;go_wp2_with fail;refine bodyPost_ret (v:=Zu #[Za #[Zi Zk z,Zs A C B,Zs u y x],Zi Zk 0]) (by simp[results,results77,go_sem,Q,R,T]) rfl ?_;exact Z.out
theorem G7 (M:Nat) (S:ZP) (O:Int) (P:ZN) (ka:ZO) (r t kl kc:Nat) (v:Zv) (w:Zw) (hB:Bd S w) (p q:Nat) (nm:ZN) (hp:p<w.heap.size) (ac:0<r) (g:w.cell? ⟨p,q,Zn⟩=Zo (Zt nm)) (b off n cap:Nat) (U:b<w.heap.size) (hn:0<n) (f:ZO) (j h:Nat) (g1:w.cell? ⟨b,off+1,Zn⟩=Zo (Zs f j h)) (i:Nat) (Z:∀ V,Bw w V->Calls prog 105 #[Zs f j h,Zt nm] V fun e c=>e=Zr (Zi Zk (i:Int))/\c=V) (z:Int) (k:ZO) (m l:Nat) (g0:w.cell? ⟨b,off,Zn⟩=Zo (Zi Zk z)) (g2:w.cell? ⟨b,off+2,Zn⟩=Zo (Zs k m l)) (Y:K (M+2)) (u:∀ V,Bw w V->Calls prog 106 #[Za #[Zi Zk z,Zs f j h,Zs k m l],Zt nm] V (rf S (M+2) Y V)) :
  Calls prog 77 #[v,Za #[Zi Zk 23,Zi Zk O,Zt P,Zs (Zo ⟨p,q,Zn⟩) r t,Zs ka kl kc],Zs (Zo ⟨b,off,Zn⟩) n cap] w (iu S (M+2) Y 0 w):=by
 obtain⟨W,H⟩:=ii ((w.alloc (Zc #[Zi Zk 23,Zi Zk O,Zt P,Zs (Zo ⟨p,q,Zn⟩) r t,Zs ka kl kc] 40)).alloc (Zc #[Zi Zk 0,Zs Zn 0 0,Zs Zn 0 0] 31));have d:Bw w W:=by rw[H];exact (gx _ _).alloc zS _
 have X:w.heap.size+2<=W.heap.size:=by rw[H];simp
 have y:W.heap[w.heap.size+1]?=Zo (Zc #[Zi Zk 0,Zs Zn 0 0,Zs Zn 0 0] 31 (0,0)):=by have:=heap_alloc_new (w.alloc (Zc #[Zi Zk 23,Zi Zk O,Zt P,Zs (Zo ⟨p,q,Zn⟩) r t,Zs ka kl kc] 40)) (Zc #[Zi Zk 0,Zs Zn 0 0,Zs Zn 0 0] 31);rw[H];simpa using this
 have L:W.heap[w.heap.size]?=Zo (Zc #[Zi Zk 23,Zi Zk O,Zt P,Zs (Zo ⟨p,q,Zn⟩) r t,Zs ka kl kc] 40 (0,0)):=by rw[H,Zh _ _ _ zS];exact heap_alloc_new _ _
 obtain⟨z0,z1,z2,z3,z4⟩:=fZ L;have g:=kC d g hp;have g1:=kC d g1 U;have g0:=kC d g0 U;have g2:=kC d g2 U;obtain⟨⟨r0,r1,r2⟩,f0,f1,f2⟩:=fY y;have x:Bw w W.drew:=d.drew;have Q:=Lib.hid (Z W.drew x);have HZ:=a7 y;have R:Hid (Calls prog 106 #[Za #[Zi Zk z,Zs f j h,Zs k m l],Zt nm] W.drew.drew fun e s=>Bw W s/\∃A B D C E G F,e=Zr (Za #[Zi Zk A,Zs B D C,Zs E G F])/\iu S (M+2) Y 0 w (Zr (Zu #[Za #[Zi Zk A,Zs B D C,Zs E G F],Zi Zk 0])) (((s.setCell ⟨w.heap.size+1,0,Zn⟩ (Zi Zk A)).setCell ⟨w.heap.size+1,1,Zn⟩ (Zs B D C)).setCell ⟨w.heap.size+1,2,Zn⟩ (Zs E G F))):=by refine (u W.drew.drew x.drew).mono ?_;rintro e s ⟨o,c0,c1,c2,rfl,N⟩;have J:Bw W s:=(((Below.refl W.heap.size W).drew).drew).trans o;obtain⟨A,B,D,C,E,G,F,rfl,rfl,rfl⟩:=N.shape;exact⟨J,A,B,D,C,E,G,F,rfl,ju hB (d.trans (J.mono d.size)) (oT (V:=W.drew.drew) X N)⟩
 have aa:=a7 d;clear Z hB d x L y z1 z2 z4 u;go_in;go_upto_region 42 with fail;rw[<- H];clear H;refine wp_region_held_drew (S:=(fun c=>c.cell? ⟨w.heap.size,3,Zn⟩=Zo (Zs (Zo ⟨p,q,Zn⟩) r t)/\c.cell? ⟨p,q,Zn⟩=Zo (Zt nm)/\c.cell? ⟨b,off+1,Zn⟩=Zo (Zs f j h))) zK (by exact⟨z3,g,g1⟩) (fun hHeld=>?_);refine tk 0 ?_;refine tk 1 ?_;refine tk 2 ?_;refine tk 3 ?_;refine tk 4 ?_;refine tk 5 ?_;refine tk 6 ?_;refine tk 7 ?_;refine i6 8 fun K hK=>?_;go_simp;go_at_call 105;refine Q.out.mono ?_;rintro e w1 ⟨rfl,rfl⟩;refine hK.out _ _ hHeld (fun hHeld=>?_);clear hK K;refine tk 9 ?_;refine wpAnyH_done zK ?_ _;go_simp;have z3:W.drew.cell? ⟨w.heap.size,3,Zn⟩=Zo (Zs (Zo ⟨p,q,Zn⟩) r t):=z3;have g:W.drew.cell? ⟨p,q,Zn⟩=Zo (Zt nm):=g;have g1:W.drew.cell? ⟨b,off+1,Zn⟩=Zo (Zs f j h):=g1;have z0:W.drew.cell? ⟨w.heap.size,0,Zn⟩=Zo (Zi Zk 23):=z0;have r0:W.drew.cell? ⟨w.heap.size+1,0,Zn⟩=Zo (Zi Zk 0):=r0;have r1:W.drew.cell? ⟨w.heap.size+1,1,Zn⟩=Zo (Zs Zn 0 0):=r1;have r2:W.drew.cell? ⟨w.heap.size+1,2,Zn⟩=Zo (Zs Zn 0 0):=r2;have f0:W.drew.frozen? ⟨w.heap.size+1,0,Zn⟩=false:=f0;have f1:W.drew.frozen? ⟨w.heap.size+1,1,Zn⟩=false:=f1;have f2:W.drew.frozen? ⟨w.heap.size+1,2,Zn⟩=false:=f2;have g0:W.drew.cell? ⟨b,off,Zn⟩=Zo (Zi Zk z):=g0;have g2:W.drew.cell? ⟨b,off+2,Zn⟩=Zo (Zs k m l):=g2;go_upto_region 47 with fail;have ad:p<W.heap.size:=om;have ab:b<W.heap.size:=om;have T:Hid (∀s,Bw W s->(fun (c:Zw)=>c.cell? ⟨w.heap.size,3,Zn⟩=Zo (Zs (Zo ⟨p,q,Zn⟩) r t)/\c.cell? ⟨p,q,Zn⟩=Zo (Zt nm)/\c.cell? ⟨b,off,Zn⟩=Zo (Zi Zk z)/\c.cell? ⟨b,off+1,Zn⟩=Zo (Zs f j h)/\c.cell? ⟨b,off+2,Zn⟩=Zo (Zs k m l)) s):=fun s I=>⟨kC I z3 om,kC I g om,kC I g0 om,kC I g1 om,kC I g2 om⟩;refine wp_region_held_drew (S:=(fun c=>c.cell? ⟨w.heap.size,3,Zn⟩=Zo (Zs (Zo ⟨p,q,Zn⟩) r t)/\c.cell? ⟨p,q,Zn⟩=Zo (Zt nm)/\c.cell? ⟨b,off,Zn⟩=Zo (Zi Zk z)/\c.cell? ⟨b,off+1,Zn⟩=Zo (Zs f j h)/\c.cell? ⟨b,off+2,Zn⟩=Zo (Zs k m l))) zK (by exact⟨z3,g,g0,g1,g2⟩) (fun hHeld=>?_);refine tk 0 ?_;refine tk 1 ?_;refine tk 2 ?_;refine tk 3 ?_;refine tk 4 ?_;refine tk 5 ?_;refine tk 6 ?_;refine i6 7 fun K hK=>?_;go_simp;go_at_call 106;refine R.out.mono ?_;rintro e s ⟨o,A,B,D,C,E,G,F,rfl,hF⟩;refine hK.out _ _ (T.out _ o) (fun hHeld=>?_);clear hK K;obtain⟨⟨q0,q1,q2⟩,e0,e1,e2⟩:=fY ((o.block (w.heap.size+1) om).trans HZ.out);have HF:=Lib.hid hF;have ae:=o.size;have HH:Hid (∀v0 v1 v2,(fun (c:Zw)=>c.cell? ⟨w.heap.size,3,Zn⟩=Zo (Zs (Zo ⟨p,q,Zn⟩) r t)/\c.cell? ⟨p,q,Zn⟩=Zo (Zt nm)/\c.cell? ⟨b,off,Zn⟩=Zo (Zi Zk z)/\c.cell? ⟨b,off+1,Zn⟩=Zo (Zs f j h)/\c.cell? ⟨b,off+2,Zn⟩=Zo (Zs k m l)) (((s.setCell ⟨w.heap.size+1,0,Zn⟩ v0).setCell ⟨w.heap.size+1,1,Zn⟩ v1).setCell ⟨w.heap.size+1,2,Zn⟩ v2)):=fun v0 v1 v2=>⟨(World.cell?_of_block (a:=⟨w.heap.size,3,Zn⟩) (gS (by show w.heap.size≠_;omega))).trans hHeld.1,(World.cell?_of_block (a:=⟨p,q,Zn⟩) (gS (by show p≠_;omega))).trans hHeld.2.1,(World.cell?_of_block (a:=⟨b,off,Zn⟩) (gS (by show b≠_;omega))).trans hHeld.2.2.1,(World.cell?_of_block (a:=⟨b,off+1,Zn⟩) (gS (by show b≠_;omega))).trans hHeld.2.2.2.1,(World.cell?_of_block (a:=⟨b,off+2,Zn⟩) (gS (by show b≠_;omega))).trans hHeld.2.2.2.2⟩;clear hF o;refine i6 8 fun K hK=>?_;go_simp;refine hK.out _ _ (HH.out _ _ _) (fun hHeld=>?_);clear hK K;refine tk 9 ?_;refine wpAnyH_done zK ?_ _;go_simp;go_wp2_with fail;refine bodyPost_ret (v:=Zu #[Za #[Zi Zk A,Zs B D C,Zs E G F],Zi Zk 0]) (by simp[results,results77,go_sem,q0,q1,q2]) rfl ?_;exact HF.out
theorem G6 (M:Nat) (S:ZP) (x1:Int) (x2:ZN) (ka:ZO) (t u kl kc:Nat) (v:Zv) (w:Zw) (hB:Bd S w) (p q:Nat) (nm:ZN) (hp:p<w.heap.size) (ah:0<t) (g:w.cell? ⟨p,q,Zn⟩=Zo (Zt nm)) (b off n cap:Nat) (N:b<w.heap.size) (hn:0<n) (ag:(1:Int)<(n:Int)) (O:Int) (k h:ZO) (m l j i:Nat) (g0:w.cell? ⟨b,off,Zn⟩=Zo (Zi Zk O)) (g1:w.cell? ⟨b,off+1,Zn⟩=Zo (Zs k m l)) (g2:w.cell? ⟨b,off+2,Zn⟩=Zo (Zs h j i)) (a0:Int) (E H:ZO) (G F J I:Nat) (X:w.cell? ⟨b,off+3,Zn⟩=Zo (Zi Zk a0)) (Y:w.cell? ⟨b,off+3+1,Zn⟩=Zo (Zs E G F)) (Z:w.cell? ⟨b,off+3+2,Zn⟩=Zo (Zs H J I)) (kk:K (M+2)) (r:∀ V,Bw w V->Calls prog 107 #[Za #[Zi Zk O,Zs k m l,Zs h j i],Zt nm,Za #[Zi Zk a0,Zs E G F,Zs H J I]] V (rf S (M+2) kk V)) :
  Calls prog 77 #[v,Za #[Zi Zk 22,Zi Zk x1,Zt x2,Zs (Zo ⟨p,q,Zn⟩) t u,Zs ka kl kc],Zs (Zo ⟨b,off,Zn⟩) n cap] w (iu S (M+2) kk 0 w):=by
 obtain⟨W,L⟩:=ii ((w.alloc (Zc #[Zi Zk 22,Zi Zk x1,Zt x2,Zs (Zo ⟨p,q,Zn⟩) t u,Zs ka kl kc] 40)).alloc (Zc #[Zi Zk 0,Zs Zn 0 0,Zs Zn 0 0] 31));have d:Bw w W:=by rw[L];exact (gx _ _).alloc zS _
 have ae:w.heap.size+2<=W.heap.size:=by rw[L];simp
 have U:W.heap[w.heap.size+1]?=Zo (Zc #[Zi Zk 0,Zs Zn 0 0,Zs Zn 0 0] 31 (0,0)):=by have:=heap_alloc_new (w.alloc (Zc #[Zi Zk 22,Zi Zk x1,Zt x2,Zs (Zo ⟨p,q,Zn⟩) t u,Zs ka kl kc] 40)) (Zc #[Zi Zk 0,Zs Zn 0 0,Zs Zn 0 0] 31);rw[L];simpa using this
 have R:W.heap[w.heap.size]?=Zo (Zc #[Zi Zk 22,Zi Zk x1,Zt x2,Zs (Zo ⟨p,q,Zn⟩) t u,Zs ka kl kc] 40 (0,0)):=by rw[L,Zh _ _ _ zS];exact heap_alloc_new _ _
 obtain⟨z0,z1,z2,z3,z4⟩:=fZ R;have g:=kC d g hp;have g0:=kC d g0 N;have g1:=kC d g1 N;have g2:=kC d g2 N;have X:=kC d X N;have Y:=kC d Y N;have Z:=kC d Z N;have Q:Bw w W.drew:=d.drew;have HZ:=a7 U;have ab:Hid (Calls prog 107 #[Za #[Zi Zk O,Zs k m l,Zs h j i],Zt nm,Za #[Zi Zk a0,Zs E G F,Zs H J I]] W.drew fun e o=>Bw W o/\∃x y A z B D C,e=Zr (Za #[Zi Zk x,Zs y A z,Zs B D C])/\iu S (M+2) kk 0 w (Zr (Zu #[Za #[Zi Zk x,Zs y A z,Zs B D C],Zi Zk 0])) (((o.setCell ⟨w.heap.size+1,0,Zn⟩ (Zi Zk x)).setCell ⟨w.heap.size+1,1,Zn⟩ (Zs y A z)).setCell ⟨w.heap.size+1,2,Zn⟩ (Zs B D C))):=by refine (r W.drew Q).mono ?_;rintro e o ⟨f,c0,c1,c2,rfl,T⟩;have P:Bw W o:=((Below.refl W.heap.size W).drew).trans f;obtain⟨x,y,A,z,B,D,C,rfl,rfl,rfl⟩:=T.shape;exact⟨P,x,y,A,z,B,D,C,rfl,ju hB (d.trans (P.mono d.size)) (oT (V:=W.drew) ae T)⟩
 clear r hB d Q R U z0 z1 z2 z4;go_in;go_upto_region 49 with fail;rw[<- L];clear L;have ai:p<W.heap.size:=om;have af:b<W.heap.size:=om;have ad:Hid (∀o,Bw W o->(fun (c:Zw)=>c.cell? ⟨w.heap.size,3,Zn⟩=Zo (Zs (Zo ⟨p,q,Zn⟩) t u)/\c.cell? ⟨p,q,Zn⟩=Zo (Zt nm)/\c.cell? ⟨b,off,Zn⟩=Zo (Zi Zk O)/\c.cell? ⟨b,off+1,Zn⟩=Zo (Zs k m l)/\c.cell? ⟨b,off+2,Zn⟩=Zo (Zs h j i)/\c.cell? ⟨b,off+3,Zn⟩=Zo (Zi Zk a0)/\c.cell? ⟨b,off+3+1,Zn⟩=Zo (Zs E G F)/\c.cell? ⟨b,off+3+2,Zn⟩=Zo (Zs H J I)) o):=fun o s=>⟨kC s z3 om,kC s g om,kC s g0 om,kC s g1 om,kC s g2 om,kC s X om,kC s Y om,kC s Z om⟩;refine wp_region_held_drew (S:=(fun c=>c.cell? ⟨w.heap.size,3,Zn⟩=Zo (Zs (Zo ⟨p,q,Zn⟩) t u)/\c.cell? ⟨p,q,Zn⟩=Zo (Zt nm)/\c.cell? ⟨b,off,Zn⟩=Zo (Zi Zk O)/\c.cell? ⟨b,off+1,Zn⟩=Zo (Zs k m l)/\c.cell? ⟨b,off+2,Zn⟩=Zo (Zs h j i)/\c.cell? ⟨b,off+3,Zn⟩=Zo (Zi Zk a0)/\c.cell? ⟨b,off+3+1,Zn⟩=Zo (Zs E G F)/\c.cell? ⟨b,off+3+2,Zn⟩=Zo (Zs H J I))) zK (by exact⟨z3,g,g0,g1,g2,X,Y,Z⟩) (fun hHeld=>?_);refine tk 0 ?_;refine tk 1 ?_;refine tk 2 ?_;refine tk 3 ?_;refine tk 4 ?_;refine tk 5 ?_;refine tk 6 ?_;refine tk 7 ?_;refine tk 8 ?_;refine tk 9 ?_;refine i6 10 fun K hK=>?_;go_simp;go_at_call 107;refine ab.out.mono ?_;rintro e o ⟨f,x,y,A,z,B,D,C,rfl,hF⟩;refine hK.out _ _ (ad.out _ f) (fun hHeld=>?_);clear hK K;obtain⟨⟨q0,q1,q2⟩,m0,m1,m2⟩:=fY ((f.block (w.heap.size+1) om).trans HZ.out);have HF:=Lib.hid hF;have aj:=f.size;have HH:Hid (∀v0 v1 v2,(fun (c:Zw)=>c.cell? ⟨w.heap.size,3,Zn⟩=Zo (Zs (Zo ⟨p,q,Zn⟩) t u)/\c.cell? ⟨p,q,Zn⟩=Zo (Zt nm)/\c.cell? ⟨b,off,Zn⟩=Zo (Zi Zk O)/\c.cell? ⟨b,off+1,Zn⟩=Zo (Zs k m l)/\c.cell? ⟨b,off+2,Zn⟩=Zo (Zs h j i)/\c.cell? ⟨b,off+3,Zn⟩=Zo (Zi Zk a0)/\c.cell? ⟨b,off+3+1,Zn⟩=Zo (Zs E G F)/\c.cell? ⟨b,off+3+2,Zn⟩=Zo (Zs H J I)) (((o.setCell ⟨w.heap.size+1,0,Zn⟩ v0).setCell ⟨w.heap.size+1,1,Zn⟩ v1).setCell ⟨w.heap.size+1,2,Zn⟩ v2)):=fun v0 v1 v2=>⟨(World.cell?_of_block (a:=⟨w.heap.size,3,Zn⟩) (gS (by show w.heap.size≠_;omega))).trans hHeld.1,(World.cell?_of_block (a:=⟨p,q,Zn⟩) (gS (by show p≠_;omega))).trans hHeld.2.1,(World.cell?_of_block (a:=⟨b,off,Zn⟩) (gS (by show b≠_;omega))).trans hHeld.2.2.1,(World.cell?_of_block (a:=⟨b,off+1,Zn⟩) (gS (by show b≠_;omega))).trans hHeld.2.2.2.1,(World.cell?_of_block (a:=⟨b,off+2,Zn⟩) (gS (by show b≠_;omega))).trans hHeld.2.2.2.2.1,(World.cell?_of_block (a:=⟨b,off+3,Zn⟩) (gS (by show b≠_;omega))).trans hHeld.2.2.2.2.2.1,(World.cell?_of_block (a:=⟨b,off+3+1,Zn⟩) (gS (by show b≠_;omega))).trans hHeld.2.2.2.2.2.2.1,(World.cell?_of_block (a:=⟨b,off+3+2,Zn⟩) (gS (by show b≠_;omega))).trans hHeld.2.2.2.2.2.2.2⟩;clear hF f;refine i6 11 fun K hK=>?_;go_simp;refine hK.out _ _ (HH.out _ _ _) (fun hHeld=>?_);clear hK K;refine tk 12 ?_;refine wpAnyH_done zK ?_ _;go_simp;go_wp2_with fail;refine bodyPost_ret (v:=Zu #[Za #[Zi Zk x,Zs y A z,Zs B D C],Zi Zk 0]) (by simp[results,results77,go_sem,q0,q1,q2]) rfl ?_;exact HF.out
theorem wR (M m:Nat) (hM:5<=M) (S:ZP) (t:T (m+1)) (l:List (ZN × K (M+1))) (a:List (K (M+1))) (c0 c1 c2 c3 c4 v G:Zv) (w:Zw) (ht:fT S w (m+1) t c0 c1 c2 c3 c4) (hv:jf S w (M+1) l v) (hr:gO S w (a8 S w (M+1)) a G) (c:Bd S w) (hl:l.length<=3000000) (aG:∀ x,x∈a->gF (M+1) x=true) (ay:zY (Nd.sort t) (Nd.names t) (Nd.text t) a) :
  Calls prog 77 #[v,Za #[c0,c1,c2,c3,c4],G] w (iu S (M+2) (fV (Nd.sort t) (Nd.names t) (Nd.text t) l.reverse a).1 (fV (Nd.sort t) (Nd.names t) (Nd.text t) l.reverse a).2 w):=by
 obtain⟨rfl,rfl,rfl,hs,aN,aO,h3,h4,⟨na,nl,nc,rfl,aK⟩,⟨ka,kl,kc,rfl,aL⟩⟩:=ht;obtain⟨_,_,aD,-⟩:=id h3;cases aD
 have HN:1<=(Nd.names t).length->∃p q,na=Zo ⟨p,q,Zn⟩/\p<w.heap.size/\w.cell? ⟨p,q,Zn⟩=Zo (Zt ((Nd.names t).getD 0 Ze)):=fun h=>by
  obtain⟨p,q,cap,aB,hp,aA⟩:=ki h3 c om;cases aB
  have:=(aA 0 om).1;exact⟨p,q,rfl,hp,by rw[gm om];simpa using this⟩
 have L:∀j,j<a.length->∃(b off cap:Nat)(r:Int)(s A:ZO)(D u C B:Nat),G=Zs (Zo ⟨b,off,Zn⟩) a.length cap/\b<w.heap.size/\w.cell? ⟨b,off+j*3,Zn⟩=Zo (Zi Zk r)/\w.cell? ⟨b,off+j*3+1,Zn⟩=Zo (Zs s D u)/\w.cell? ⟨b,off+j*3+2,Zn⟩=Zo (Zs A C B)/\a8 S w (M+1) (a.getD j zU) (Zi Zk r) (Zs s D u) (Zs A C B)/\gF (M+1) (a.getD j zU)=true:=fun j X=>by obtain⟨b,off,cap,r,s,A,D,u,C,B,h1,h2,h5,h6,h7,h8⟩:=jX hr c j X;rw[gm X];exact⟨b,off,cap,r,s,A,D,u,C,B,h1,h2,h5,h6,h7,h8,aG _ (Zg X)⟩
 obtain⟨lo,hi,o4,aE,o5,J,N,an,aF,ar⟩:=ay;generalize aM:Nd.sort t=op at *;have ai:op=1∨op=2∨op=3∨op=4∨op=5∨op=6∨op=7∨op=8∨op=9∨op=10∨op=11∨op=12∨op=13∨op=14∨op=15∨op=16∨op=17∨op=18∨op=19∨op=20∨op=21∨op=22∨op=23∨op=24∨op=25∨op=26∨op=27∨op=28∨op=29∨op=30∨op=31∨op=32∨op=33∨op=34∨op=35:=om;rcases ai with rfl|rfl|rfl|rfl|rfl|rfl|rfl|rfl|rfl|rfl|rfl|rfl|rfl|rfl|rfl|rfl|rfl|rfl|rfl|rfl|rfl|rfl|rfl|rfl|rfl|rfl|rfl|rfl|rfl|rfl|rfl|rfl|rfl|rfl|rfl
 ·have e:fV 1 (Nd.names t) (Nd.text t) l.reverse a=(iA 1,0):=by simp[fV]
  rw[e];exact ir 1 1 zS M S _ _ _ _ _ _ _ _ v G w c
 ·have e:fV 2 (Nd.names t) (Nd.text t) l.reverse a=(iA 2,0):=by simp[fV]
  rw[e];exact ir 2 2 zS M S _ _ _ _ _ _ _ _ v G w c
 ·have e:fV 3 (Nd.names t) (Nd.text t) l.reverse a=(iA 3,0):=by simp[fV]
  rw[e];exact ir 3 3 zS M S _ _ _ _ _ _ _ _ v G w c
 ·obtain⟨p,q,rfl,hp,g⟩:=HN (o4 zS);have e:fV 4 (Nd.names t) (Nd.text t) l.reverse a=nF l.reverse ((Nd.names t).getD 0 Ze):=by simp[fV,nF];generalize iX l.reverse _=o;cases o<;>rfl
  rw[e];exact IY M S _ _ _ _ _ _ _ v G w c l hv hl p q _ hp (by have:=o4 zS;omega) g
 ·have e:fV 5 (Nd.names t) (Nd.text t) l.reverse a=(kE 6 (qd M (Nd.text t)),0):=by simp[fV]
  rw[e];exact IZ M S _ _ _ _ _ _ _ _ v G w c hM (o5 zS)
 ·have e:fV 6 (Nd.names t) (Nd.text t) l.reverse a=(kE 4 (qd M (Nd.text t)),0):=by simp[fV]
  rw[e];exact I0 M S _ _ _ _ _ _ _ _ v G w c hM (o5 zS)
 ·obtain⟨b,off,cap,r,s,A,D,u,C,B,rfl,n,k,d,f,E,ok⟩:=L 0 (by have:=J zS;omega);simp only[Nat.zero_mul,Nat.add_zero]at k d f;have e:fV 7 (Nd.names t) (Nd.text t) l.reverse a=(kE 6 (a.getD 0 zU),0):=by simp[fV]
  rw[e];exact I1 M S _ _ _ _ _ _ _ _ v w c b off a.length cap n (by have:=J zS;omega) r s A D u C B _ E k d f
 ·obtain⟨b,off,cap,r,s,A,D,u,C,B,rfl,n,k,d,f,E,ok⟩:=L 0 (by have:=J zS;omega);simp only[Nat.zero_mul,Nat.add_zero]at k d f;have e:fV 8 (Nd.names t) (Nd.text t) l.reverse a=(kE 4 (a.getD 0 zU),0):=by simp[fV]
  rw[e];exact I2 M S _ _ _ _ _ _ _ _ v w c b off a.length cap n (by have:=J zS;omega) r s A D u C B _ E k d f
 ·have e:fV 9 (Nd.names t) (Nd.text t) l.reverse a=(iA 1,0):=by simp[fV]
  rw[e];exact ir 9 1 zS M S _ _ _ _ _ _ _ _ v G w c
 ·have e:fV 10 (Nd.names t) (Nd.text t) l.reverse a=(iA 1,0):=by simp[fV]
  rw[e];exact ir 10 1 zS M S _ _ _ _ _ _ _ _ v G w c
 ·have e:fV 11 (Nd.names t) (Nd.text t) l.reverse a=(iA 1,0):=by simp[fV]
  rw[e];exact ir 11 1 zS M S _ _ _ _ _ _ _ _ v G w c
 ·have e:fV 12 (Nd.names t) (Nd.text t) l.reverse a=(iA 1,0):=by simp[fV]
  rw[e];exact ir 12 1 zS M S _ _ _ _ _ _ _ _ v G w c
 ·have e:fV 13 (Nd.names t) (Nd.text t) l.reverse a=(iA 1,0):=by simp[fV]
  rw[e];exact ir 13 1 zS M S _ _ _ _ _ _ _ _ v G w c
 ·have e:fV 14 (Nd.names t) (Nd.text t) l.reverse a=(iA 3,0):=by simp[fV]
  rw[e];exact ir 14 3 zS M S _ _ _ _ _ _ _ _ v G w c
 ·have e:fV 15 (Nd.names t) (Nd.text t) l.reverse a=(iA 3,0):=by simp[fV]
  rw[e];exact ir 15 3 zS M S _ _ _ _ _ _ _ _ v G w c
 ·have e:fV 16 (Nd.names t) (Nd.text t) l.reverse a=(iA 3,0):=by simp[fV]
  rw[e];exact ir 16 3 zS M S _ _ _ _ _ _ _ _ v G w c
 ·have e:fV 17 (Nd.names t) (Nd.text t) l.reverse a=(iA 3,0):=by simp[fV]
  rw[e];exact ir 17 3 zS M S _ _ _ _ _ _ _ _ v G w c
 ·have e:fV 18 (Nd.names t) (Nd.text t) l.reverse a=(iA 3,0):=by simp[fV]
  rw[e];exact ir 18 3 zS M S _ _ _ _ _ _ _ _ v G w c
 ·obtain⟨b,off,cap,r,s,A,D,u,C,B,rfl,n,k,d,f,E,ok⟩:=L 1 (by have:=N zS;omega);simp only[Nat.one_mul]at k d f;have e:fV 19 (Nd.names t) (Nd.text t) l.reverse a=(pq (a.getD 1 zU),0):=by simp[fV]
  rw[e];exact mO 19 zS M S _ _ _ _ _ _ _ _ v w c b off a.length cap n (by have:=N zS;omega) r s A D u C B _ E k d f
 ·obtain⟨b,off,cap,r,s,A,D,u,C,B,rfl,n,k,d,f,E,ok⟩:=L 1 (by have:=N zS;omega);simp only[Nat.one_mul]at k d f;have e:fV 20 (Nd.names t) (Nd.text t) l.reverse a=(pq (a.getD 1 zU),0):=by simp[fV]
  rw[e];exact mO 20 zS M S _ _ _ _ _ _ _ _ v w c b off a.length cap n (by have:=N zS;omega) r s A D u C B _ E k d f
 ·obtain⟨p,q,rfl,hp,g⟩:=HN (o4 zS);obtain⟨b,off,cap,r,s,A,D,u,C,B,rfl,n,k,d,f,E,ok⟩:=L 0 (by have:=J zS;omega);simp only[Nat.zero_mul,Nat.add_zero]at k d f;obtain⟨fl,ae,f8,fa,fr⟩:=ms ok (an zS);generalize Y:a.getD 0 zU=k0 at *;generalize Z:(Nd.names t).getD 0 Ze=nm at *;have y:=Y;have z:=Z;rw[List.getD_eq_getElem?_getD]at y z;obtain⟨aq,-,I,R⟩:=id E;obtain⟨_,_,ab,-⟩:=id I;cases ab
  obtain⟨ao,af,ad,-,ak⟩:=id R;cases ad
  have W:∀V,Bw w V->Calls prog 105 #[Zs s (Kd.names k0).length u,Zt nm] V fun e w'=>((∃i,∃h:i<(Kd.names k0).length,(Kd.names k0)[i]=nm/\e=Zr (Zi Zk (i:Int)))∨(nm ∉ Kd.names k0/\e=Zr (Zi Zk (-1))))/\w'=V:=fun V H=>pW S _ _ nm V (I.keep (a6 H c) fun _ h=>h) om;by_cases F:nm∈Kd.names k0
  ·obtain⟨i,hi,P⟩:=List.getElem_of_mem F;have U:i<(Kd.kids k0).length:=om;have O:kR (Kd.names k0) (Kd.kids k0) nm=Zo (Kd.kids k0)[i]:=by rw[<- P];exact mZ _ _ i hi U fa
   have ah:∀V,Bw w V->Calls prog 105 #[Zs s (Kd.names k0).length u,Zt nm] V fun e w'=>e=Zr (Zi Zk (i:Int))/\w'=V:=fun V H=>(W V H).mono (by
    rintro e w' ⟨⟨j,X,Q,he⟩|⟨am,-⟩,hw⟩
    ·have:j=i:=wo fa j i X hi (by rw[Q,P])
     subst this;exact⟨he,hw⟩
    ·exact absurd F am)
   obtain⟨b3,o3,rfl,aw,aj⟩:=ak (fun e=>by rw[e]at U;simp at U);obtain⟨d0,d1,d2,q0,q1,q2,ap⟩:=aj i U;obtain⟨y0,ya,yl,yc,za,zl,zc,rfl,rfl,rfl⟩:=ap.shape;have e:fV 21 (Nd.names t) (Nd.text t) l.reverse a=(pq (fO M M (Kd.kids k0)[i]),0):=by simp[fV,mP,y,z,O]
   rw[e];exact G5 M S _ _ _ _ _ _ _ v w c p q nm hp (by have:=o4 zS;omega) g b off a.length cap n (by have:=J zS;omega) _ _ _ d i ah b3 o3 _ _ (c _ aw) om f y0 ya za yl yc zl zc _ (ap.cp om) q0 q1 q2
  ·have O:kR (Kd.names k0) (Kd.kids k0) nm=Zn:=oJ _ _ _ F;have e:fV 21 (Nd.names t) (Nd.text t) l.reverse a=((zU:K (M+2)),8):=by simp[fV,mP,y,z,O]
   rw[e];refine Al M S _ _ _ _ _ _ _ v w c p q nm hp (by have:=o4 zS;omega) g b off a.length cap n (by have:=J zS;omega) _ _ _ d fun V H=>(W V H).mono ?_;rintro e w' ⟨⟨j,X,Q,-⟩|⟨-,he⟩,hw⟩;·exact absurd (by rw[<- Q];exact Zg X) F
   ·exact⟨he,hw⟩
 ·obtain⟨p,q,rfl,hp,g⟩:=HN (o4 zS);obtain⟨b,off,cap,r,s,A,D,u,C,B,rfl,n,k,d,f,E,ok⟩:=L 0 (by have:=N zS;omega);simp only[Nat.zero_mul,Nat.add_zero]at k d f;obtain⟨fl,ae,f8,fa,fr⟩:=ms ok (an zS);generalize Y:a.getD 0 zU=k0 at *;generalize Z:(Nd.names t).getD 0 Ze=nm at *;have y:=Y;have z:=Z;rw[List.getD_eq_getElem?_getD]at y z;obtain⟨aq,-,I,R⟩:=id E;obtain⟨_,_,ab,-⟩:=id I;cases ab
  obtain⟨ao,af,ad,-,ak⟩:=id R;cases ad
  obtain⟨b',aI,aH,a0,aa,da,al,ac,dl,dc,ax,aJ,q0,q1,q2,az,aQ⟩:=L 1 (by have:=N zS;omega);cases ax
  simp only[Nat.one_mul]at q0 q1 q2;generalize ag:a.getD 1 zU=k1 at *;have e:fV 22 (Nd.names t) (Nd.text t) l.reverse a=(A6 k0 nm k1,0):=by rw[List.getD_eq_getElem?_getD]at ag;simp[fV,y,z,ag]
  rw[e];refine G6 M S _ _ _ _ _ _ _ v w c p q nm hp (by have:=o4 zS;omega) g b off a.length cap n (by have:=N zS;omega) (by have:=N zS;omega) r _ _ _ _ _ _ k d f a0 aa da al ac dl dc q0 q1 q2 _ fun V H=>?_;exact yM (M+1) S r (Kd.names k0) ((Kd.kids k0).map (fO M M)) k1 _ _ _ _ _ _ a0 aa da al ac dl dc nm V (I.keep (a6 H c) fun _ h=>h) (gO.up (R.keepK (a6 H c) fun _ h=>h) om) (az.keep (a6 H c) fun _ h=>h) (fun b n=>Zd (c b n) H.size) rfl (by rw[List.length_map]) fl ae f8 (aE rfl) fa
 ·obtain⟨p,q,rfl,hp,g⟩:=HN (o4 zS);obtain⟨b,off,cap,r,s,A,D,u,C,B,rfl,n,k,d,f,E,ok⟩:=L 0 (by have:=J zS;omega);simp only[Nat.zero_mul,Nat.add_zero]at k d f;obtain⟨fl,ae,f8,fa,fr⟩:=ms ok (an zS);generalize Y:a.getD 0 zU=k0 at *;generalize Z:(Nd.names t).getD 0 Ze=nm at *;have y:=Y;have z:=Z;rw[List.getD_eq_getElem?_getD]at y z;obtain⟨aq,-,I,R⟩:=id E;obtain⟨_,_,ab,-⟩:=id I;cases ab
  obtain⟨ao,af,ad,-,ak⟩:=id R;cases ad
  have W:∀V,Bw w V->Calls prog 105 #[Zs s (Kd.names k0).length u,Zt nm] V fun e w'=>((∃i,∃h:i<(Kd.names k0).length,(Kd.names k0)[i]=nm/\e=Zr (Zi Zk (i:Int)))∨(nm ∉ Kd.names k0/\e=Zr (Zi Zk (-1))))/\w'=V:=fun V H=>pW S _ _ nm V (I.keep (a6 H c) fun _ h=>h) om;by_cases F:nm∈Kd.names k0
  ·obtain⟨i,hi,P⟩:=List.getElem_of_mem F;have U:i<(Kd.kids k0).length:=om;have O:kR (Kd.names k0) (Kd.kids k0) nm=Zo (Kd.kids k0)[i]:=by rw[<- P];exact mZ _ _ i hi U fa
   have ah:∀V,Bw w V->Calls prog 105 #[Zs s (Kd.names k0).length u,Zt nm] V fun e w'=>e=Zr (Zi Zk (i:Int))/\w'=V:=fun V H=>(W V H).mono (by
    rintro e w' ⟨⟨j,X,Q,he⟩|⟨am,-⟩,hw⟩
    ·have:j=i:=wo fa j i X hi (by rw[Q,P])
     subst this;exact⟨he,hw⟩
    ·exact absurd F am)
   have e:fV 23 (Nd.names t) (Nd.text t) l.reverse a=(yj k0 nm,0):=by simp[fV,mP,y,z,O]
   rw[e];refine G7 M S _ _ _ _ _ _ _ v w c p q nm hp (by have:=o4 zS;omega) g b off a.length cap n (by have:=J zS;omega) _ _ _ d i ah r _ _ _ k f _ fun V H=>?_;exact yK (M+1) S r (Kd.names k0) ((Kd.kids k0).map (fO M M)) _ _ _ _ _ _ nm V (I.keep (a6 H c) fun _ h=>h) (gO.up (R.keepK (a6 H c) fun _ h=>h) om) (fun b n=>Zd (c b n) H.size) rfl (by rw[List.length_map]) fl ae f8
  ·have O:kR (Kd.names k0) (Kd.kids k0) nm=Zn:=oJ _ _ _ F;have e:fV 23 (Nd.names t) (Nd.text t) l.reverse a=((zU:K (M+2)),8):=by simp[fV,mP,y,z,O]
   rw[e];refine Am M S _ _ _ _ _ _ _ v w c p q nm hp (by have:=o4 zS;omega) g b off a.length cap n (by have:=J zS;omega) _ _ _ d fun V H=>(W V H).mono ?_;rintro e w' ⟨⟨j,X,Q,-⟩|⟨-,he⟩,hw⟩;·exact absurd (by rw[<- Q];exact Zg X) F
   ·exact⟨he,hw⟩
 ·have e:fV 24 (Nd.names t) (Nd.text t) l.reverse a=((⟨5,Nd.names t,a⟩:Kd (K (M+1))),0):=by simp[fV];rfl
  rw[e];exact G8 M S _ _ _ _ _ _ _ _ v G w c _ a h3 rfl (ar rfl).1 (ar rfl).2 hr
 ·obtain⟨b,off,cap,r,s,A,D,u,C,B,rfl,n,k,d,f,E,ok⟩:=L 0 (by have:=J zS;omega);simp only[Nat.zero_mul,Nat.add_zero]at k d f;obtain⟨b2,au,v0,va,wa,vl,vc,wl,wc,rfl,aC,av,f0,f1,f2,P,aP⟩:=k6 E c (.inr (aF rfl)) ok;have e:fV 25 (Nd.names t) (Nd.text t) l.reverse a=(pq (mQ (a.getD 0 zU)),0):=by simp[fV]
  rw[e];exact G9 M S _ _ _ _ _ _ _ _ v w c b off a.length cap n (by have:=J zS;omega) b2 au _ _ av aC f v0 va wa vl vc wl wc _ P f0 f1 f2
 ·have e:fV 26 (Nd.names t) (Nd.text t) l.reverse a=(iA 1,0):=by simp[fV]
  rw[e];exact ir 26 1 zS M S _ _ _ _ _ _ _ _ v G w c
 ·obtain⟨b,off,cap,r,s,A,D,u,C,B,rfl,n,k,d,f,E,ok⟩:=L 0 (by have:=J zS;omega);simp only[Nat.zero_mul,Nat.add_zero]at k d f;have e:fV 27 (Nd.names t) (Nd.text t) l.reverse a=(pq (a.getD 0 zU),0):=by simp[fV]
  rw[e];exact qF 27 zS M S _ _ _ _ _ _ _ _ v w c b off a.length cap n (by have:=J zS;omega) r s A D u C B _ E k d f
 ·obtain⟨b,off,cap,r,s,A,D,u,C,B,rfl,n,k,d,f,E,ok⟩:=L 0 (by have:=J zS;omega);simp only[Nat.zero_mul,Nat.add_zero]at k d f;have e:fV 28 (Nd.names t) (Nd.text t) l.reverse a=(pq (a.getD 0 zU),0):=by simp[fV]
  rw[e];exact qF 28 zS M S _ _ _ _ _ _ _ _ v w c b off a.length cap n (by have:=J zS;omega) r s A D u C B _ E k d f
 ·have e:fV 29 (Nd.names t) (Nd.text t) l.reverse a=(iA 2,0):=by simp[fV]
  rw[e];exact ir 29 2 zS M S _ _ _ _ _ _ _ _ v G w c
 ·have e:fV 30 (Nd.names t) (Nd.text t) l.reverse a=(kE 6 (iA 1),0):=by simp[fV]
  rw[e];exact Ha M S _ _ _ _ _ _ _ _ v G w c
 ·obtain⟨b,off,cap,r,s,A,D,u,C,B,rfl,n,k,d,f,E,ok⟩:=L 1 (by have:=N zS;omega);simp only[Nat.one_mul]at k d f;have e:fV 31 (Nd.names t) (Nd.text t) l.reverse a=(pq (a.getD 1 zU),0):=by simp[fV]
  rw[e];exact mO 31 zS M S _ _ _ _ _ _ _ _ v w c b off a.length cap n (by have:=N zS;omega) r s A D u C B _ E k d f
 ·obtain⟨b,off,cap,r,s,A,D,u,C,B,rfl,n,k,d,f,E,ok⟩:=L 1 (by have:=N zS;omega);simp only[Nat.one_mul]at k d f;have e:fV 32 (Nd.names t) (Nd.text t) l.reverse a=(pq (a.getD 1 zU),0):=by simp[fV]
  rw[e];exact mO 32 zS M S _ _ _ _ _ _ _ _ v w c b off a.length cap n (by have:=N zS;omega) r s A D u C B _ E k d f
 ·obtain⟨b,off,cap,r,s,A,D,u,C,B,rfl,n,k,d,f,E,ok⟩:=L 1 (by have:=N zS;omega);simp only[Nat.one_mul]at k d f;have e:fV 33 (Nd.names t) (Nd.text t) l.reverse a=(kE 4 (a.getD 1 zU),0):=by simp[fV]
  rw[e];exact Hb M S _ _ _ _ _ _ _ _ v w c b off a.length cap n (by have:=N zS;omega) r s A D u C B _ E k d f
 ·obtain⟨b,off,cap,r,s,A,D,u,C,B,rfl,n,k,d,f,E,ok⟩:=L 0 (by have:=J zS;omega);simp only[Nat.zero_mul,Nat.add_zero]at k d f;have e:fV 34 (Nd.names t) (Nd.text t) l.reverse a=(pq (a.getD 0 zU),0):=by simp[fV]
  rw[e];exact qF 34 zS M S _ _ _ _ _ _ _ _ v w c b off a.length cap n (by have:=J zS;omega) r s A D u C B _ E k d f
 ·obtain⟨b,off,cap,r,s,A,D,u,C,B,rfl,n,k,d,f,E,ok⟩:=L 1 (by have:=N zS;omega);simp only[Nat.one_mul]at k d f;have e:fV 35 (Nd.names t) (Nd.text t) l.reverse a=(pq (a.getD 1 zU),0):=by simp[fV]
  rw[e];exact mO 35 zS M S _ _ _ _ _ _ _ _ v w c b off a.length cap n (by have:=N zS;omega) r s A D u C B _ E k d f
end Go.Proofs.YtcfojmaccikgeaaGreatDoor
