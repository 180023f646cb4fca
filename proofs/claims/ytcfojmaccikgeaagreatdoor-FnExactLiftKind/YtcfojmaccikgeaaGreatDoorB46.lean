import Derived.Test.YtcfojmaccikgeaaGreatDoorB41
import Derived.Test.YtcfojmaccikgeaaGreatDoorB40
import Derived.Test.YtcfojmaccikgeaaGreatDoorB2
import Derived.Test.YtcfojmaccikgeaaGreatDoorB26
import Derived.Deep.RegionHeld
import Derived.Test.YtcfojmaccikgeaaGreatDoorB13
import Derived.Test.YtcfojmaccikgeaaGreatDoorB32
import Derived.BigQuiet
import Derived.Test.YtcfojmaccikgeaaGreatDoorB42
import Derived.Test.YtcfojmaccikgeaaGreatDoorB44
import Derived.Test.YtcfojmaccikgeaaGreatDoorB39
open Go.Value renaming slice→Zs,int→Zi,string→Zt,pointer→Zp,agg→Za,tuple→Zu
open Go.IntKind renaming i64→Zk
open Go.Ending renaming returned→Zr
open Go.Obj renaming cells→Zc
open Option renaming none→Zn,some→Zo
open Go renaming World→Zw,Value→Zv
open Nat renaming le_refl→Zl,lt_of_lt_of_le→Zd
open Go.RowKit.Below renaming heap_alloc→Zh
open List renaming getElem_mem→Zg,forall_mem_cons→Zm
open ByteArray renaming empty→Ze
namespace Go.Proofs.YtcfojmaccikgeaaGreatDoor
open Go.RowKit Go.Proofs.Tryz
set_option maxRecDepth 100000
set_option maxHeartbeats 16000000
variable {M m n:Nat} {S:Nat->Prop} {w V w' W:Zw} {c0 c1 c2:Zv}
def ik{M:Nat}(op:Int)(names:List ByteArray)(i:Nat)(a:List (K (M+1)))(l:List (ByteArray×K (M+1))):List (ByteArray×K (M+1)):=
 if (op=20∨op=42)/\i=1 then l++[(names.getD 0 Ze,a.getD 0 zU)]
 else if (op=32∨op=33∨op=34∨op=43)/\i=1 then l++[(names.getD 0 Ze,mN (a.getD 0 zU))]
 else if op=35/\i=2 then (l++[(names.getD 0 Ze,a.getD 1 zU)])++[(names.getD 1 Ze,mN (a.getD 0 zU))]
 else l
theorem D7(op:Int)(names:List ByteArray)(i:Nat)(a:List (K (M+1)))(l:List (ByteArray×K (M+1))):mu op names i a l.reverse=(ik op names i a l).reverse:=by
 unfold mu ik;split;·simp
 ·split;·simp
  ·split<;>simp
theorem Da(op:Int)(names:List ByteArray)(i:Nat)(a:List (K (M+1)))(l:List (ByteArray×K (M+1))):(ik op names i a l).length<=l.length+2:=by
 unfold ik;split;·simp
 ·split;·simp
  ·split<;>simp
theorem jr.wide{l:List (ByteArray×K m)}{e:Ending}(h:jr S m l V e w')(d:Bw w V):jr S m l w e w':=by
 obtain⟨a,v,f,c⟩:=h;have g:=d.size;refine⟨d.trans (a.mono d.size),v,f,c.keep (fun _ _=>rfl) fun b a=>?_⟩;rcases a with a|a;·exact .inl a
 ·exact .inr ⟨om,a.2⟩
theorem jr.none{l:List (ByteArray×K m)}{v:Zv}(h:gM S w m l v)(b:Bd S w)(a:Bw w w'):jr S m l w (Zr v) w':=
 ⟨a,v,rfl,h.keep (a6 a b) fun _ a=>.inl a⟩
theorem oH (op:Int) (a:op=20∨op=42∨op=32∨op=33∨op=34∨op=43) (P:Ending->Zw->Prop) (g:Int) (k:ByteArray) (na b:Option Addr) (h e j f:Nat) (v l:Zv) (w:Zw) (i:Nat) (hi:((i:Int)==1)=false) (d:∀ c,Bw w c->P (Zr v) c) :
  Calls prog 74 #[v,Za #[Zi Zk op,Zi Zk g,Zt k,Zs na h e,Zs b j f],Zi Zk (i:Int),l] w P:=by
 have m:=Lib.hid (d _ ((Below.refl w.heap.size w).alloc (Zl _) (Zc #[Zi Zk op,Zi Zk g,Zt k,Zs na h e,Zs b j f] 40)));clear d;rcases a with rfl|rfl|rfl|rfl|rfl|rfl;all_goals
  go_in
  go_wp2_with fail
  exact m.out
theorem Bj (P:Ending->Zw->Prop) (g:Int) (j:ByteArray) (na a:Option Addr) (f d h e:Nat) (v k:Zv) (w:Zw) (i:Nat) (hi:((i:Int)==2)=false) (c:∀ b,Bw w b->P (Zr v) b) :
  Calls prog 74 #[v,Za #[Zi Zk 35,Zi Zk g,Zt j,Zs na f d,Zs a h e],Zi Zk (i:Int),k] w P:=by have l:=Lib.hid (c _ ((Below.refl w.heap.size w).alloc (Zl _) (Zc #[Zi Zk 35,Zi Zk g,Zt j,Zs na f d,Zs a h e] 40)));clear c;go_in;go_wp2_with fail;exact l.out
theorem DV (P:Ending->Zw->Prop) (d:Int) (f:ByteArray) (na a:Option Addr) (c j e b:Nat) (v s:Zv) (w:Zw) (op:Int) (i:Nat) (r:(op==20)=false) (q:(op==42)=false) (p:(op==32)=false) (m:(op==33)=false) (o:(op==34)=false) (l:(op==43)=false) (k:(op==35)=false) (h:∀ g,Bw w g->P (Zr v) g) :
  Calls prog 74 #[v,Za #[Zi Zk op,Zi Zk d,Zt f,Zs na c j,Zs a e b],Zi Zk (i:Int),s] w P:=by have n:=Lib.hid (h _ ((Below.refl w.heap.size w).alloc (Zl _) (Zc #[Zi Zk op,Zi Zk d,Zt f,Zs na c j,Zs a e b] 40)));clear h;go_in;go_wp2_with fail;exact n.out
theorem Bz (op:Int) (B:op=20∨op=42) (P:Ending->Zw->Prop) (D:Int) (F:ByteArray) (G:Option Addr) (g l E C:Nat) (v:Zv) (w:Zw) (p q:Nat) (nm:ByteArray) (L:p<w.heap.size) (M:0<g) (g0:w.cell? ⟨p,q,Zn⟩=Zo (Zt nm)) (b off n cap:Nat) (h:b<w.heap.size) (R:0<n) (y:Int) (t z:Option Addr) (A u s x:Nat) (f0:w.cell? ⟨b,off,Zn⟩=Zo (Zi Zk y)) (f1:w.cell? ⟨b,off+1,Zn⟩=Zo (Zs t A u)) (f2:w.cell? ⟨b,off+2,Zn⟩=Zo (Zs z s x)) (H:∀ V,Bw w V->Calls prog 100 #[v,Zt nm,Za #[Zi Zk y,Zs t A u,Zs z s x]] V fun e c=>∃ v,e=Zr v/\Bw V c/\P (Zr v) c) :
  Calls prog 74 #[v,Za #[Zi Zk op,Zi Zk D,Zt F,Zs (Zo ⟨p,q,Zn⟩) g l,Zs G E C],Zi Zk 1,Zs (Zo ⟨b,off,Zn⟩) n cap] w P:=by
 obtain⟨W,k⟩:=iw (w.alloc (Zc #[Zi Zk op,Zi Zk D,Zt F,Zs (Zo ⟨p,q,Zn⟩) g l,Zs G E C] 40));have a:Bw w W:=by rw[k];exact gF _ _
 have d:=heap_alloc_last w (Zc #[Zi Zk op,Zi Zk D,Zt F,Zs (Zo ⟨p,q,Zn⟩) g l,Zs G E C] 40);have I:w.heap.size<W.heap.size:=by rw[k];simp
 rw[<- k]at d;obtain⟨z0,Q,z2,z3,z4⟩:=gE d;have g0:=kC a g0 L;have f0:=kC a f0 h;have f1:=kC a f1 h;have f2:=kC a f2 h;have J:Hid (∀V,Bw W V->(fun (c:Zw)=>c.cell? ⟨w.heap.size,3,Zn⟩=Zo (Zs (Zo ⟨p,q,Zn⟩) g l)/\c.cell? ⟨p,q,Zn⟩=Zo (Zt nm)/\c.cell? ⟨b,off,Zn⟩=Zo (Zi Zk y)/\c.cell? ⟨b,off+1,Zn⟩=Zo (Zs t A u)/\c.cell? ⟨b,off+2,Zn⟩=Zo (Zs z s x)) V):=fun V r=>⟨kC r z3 I,kC r g0 (Zd L a.size),kC r f0 (Zd h a.size),kC r f1 (Zd h a.size),kC r f2 (Zd h a.size)⟩;have o:=a7 a;have f:Bw W W.drew:=(Below.refl _ _).drew;have H:=Lib.hid H;clear a d;rcases B with rfl|rfl;all_goals
  go_in
  go_wp2_with fail
  rw[<- k]
  clear k
  refine wp_region_held_drew (S:=(fun c=>c.cell? ⟨w.heap.size,3,Zn⟩=Zo (Zs (Zo ⟨p,q,Zn⟩) g l)/\c.cell? ⟨p,q,Zn⟩=Zo (Zt nm)/\c.cell? ⟨b,off,Zn⟩=Zo (Zi Zk y)/\c.cell? ⟨b,off+1,Zn⟩=Zo (Zs t A u)/\c.cell? ⟨b,off+2,Zn⟩=Zo (Zs z s x))) zK (by exact⟨z3,g0,f0,f1,f2⟩) (fun hHeld=>?_)
  refine tk 0 ?_
  refine tk 1 ?_
  refine tk 2 ?_
  refine tk 3 ?_
  refine tk 4 ?_
  refine tk 5 ?_
  refine tk 6 ?_
  refine tk 7 ?_
  refine iT 8 fun K hK=>?_
  go_simp
  go_at_call 100
  refine (H.out W.drew (o.out.trans (f.mono o.out.size))).mono ?_
  rintro e w1 ⟨O,rfl,j,m⟩
  have i:Bw W w1:=f.trans (j.mono f.size)
  refine hK.out _ _ (J.out _ i) (fun hHeld=>?_)
  clear hK K
  have N:=Lib.hid m
  clear m j i
  refine tk 9 ?_
  refine wpAnyH_done zK ?_ _
  go_simp
  go_wp2_with fail
  exact N.out
theorem rU (op:Int) (G:op=32∨op=33∨op=34∨op=43) (P:Ending->Zw->Prop) (I:Int) (L:ByteArray) (M:Option Addr) (l t J H:Nat) (v:Zv) (w:Zw) (p q:Nat) (nm:ByteArray) (R:p<w.heap.size) (U:0<l) (g0:w.cell? ⟨p,q,Zn⟩=Zo (Zt nm)) (b off n cap:Nat) (T:b<w.heap.size) (hn:0<n) (C:Int) (z D:Option Addr) (F A y B:Nat) (g a E i:Nat) (h:g<w.heap.size) (X:0<E) (f:w.cell? ⟨b,off+2,Zn⟩=Zo (Zs (Zo ⟨g,a,Zn⟩) E i)) (f0:w.cell? ⟨g,a,Zn⟩=Zo (Zi Zk C)) (f1:w.cell? ⟨g,a+1,Zn⟩=Zo (Zs z F A)) (f2:w.cell? ⟨g,a+2,Zn⟩=Zo (Zs D y B)) (N:∀ V,Bw w V->Calls prog 100 #[v,Zt nm,Za #[Zi Zk C,Zs z F A,Zs D y B]] V fun e d=>∃ v,e=Zr v/\Bw V d/\P (Zr v) d) :
  Calls prog 74 #[v,Za #[Zi Zk op,Zi Zk I,Zt L,Zs (Zo ⟨p,q,Zn⟩) l t,Zs M J H],Zi Zk 1,Zs (Zo ⟨b,off,Zn⟩) n cap] w P:=by
 obtain⟨W,s⟩:=iw (w.alloc (Zc #[Zi Zk op,Zi Zk I,Zt L,Zs (Zo ⟨p,q,Zn⟩) l t,Zs M J H] 40));have c:Bw w W:=by rw[s];exact gF _ _
 have j:=heap_alloc_last w (Zc #[Zi Zk op,Zi Zk I,Zt L,Zs (Zo ⟨p,q,Zn⟩) l t,Zs M J H] 40);have O:w.heap.size<W.heap.size:=by rw[s];simp
 rw[<- s]at j;obtain⟨z0,z1,z2,z3,z4⟩:=gE j;have g0:=kC c g0 R;have f:=kC c f T;have f0:=kC c f0 h;have f1:=kC c f1 h;have f2:=kC c f2 h;have Q:Hid (∀V,Bw W V->(fun (d:Zw)=>d.cell? ⟨w.heap.size,3,Zn⟩=Zo (Zs (Zo ⟨p,q,Zn⟩) l t)/\d.cell? ⟨p,q,Zn⟩=Zo (Zt nm)/\d.cell? ⟨b,off+2,Zn⟩=Zo (Zs (Zo ⟨g,a,Zn⟩) E i)/\d.cell? ⟨g,a,Zn⟩=Zo (Zi Zk C)/\d.cell? ⟨g,a+1,Zn⟩=Zo (Zs z F A)/\d.cell? ⟨g,a+2,Zn⟩=Zo (Zs D y B)) V):=fun V m=>⟨kC m z3 O,kC m g0 (Zd R c.size),kC m f (Zd T c.size),kC m f0 (Zd h c.size),kC m f1 (Zd h c.size),kC m f2 (Zd h c.size)⟩;have x:=a7 c;have k:Bw W W.drew:=(Below.refl _ _).drew;have N:=Lib.hid N;clear c j;rcases G with rfl|rfl|rfl|rfl;all_goals
  go_in
  go_wp2_with fail
  rw[<- s]
  clear s
  refine wp_region_held_drew (S:=(fun d=>d.cell? ⟨w.heap.size,3,Zn⟩=Zo (Zs (Zo ⟨p,q,Zn⟩) l t)/\d.cell? ⟨p,q,Zn⟩=Zo (Zt nm)/\d.cell? ⟨b,off+2,Zn⟩=Zo (Zs (Zo ⟨g,a,Zn⟩) E i)/\d.cell? ⟨g,a,Zn⟩=Zo (Zi Zk C)/\d.cell? ⟨g,a+1,Zn⟩=Zo (Zs z F A)/\d.cell? ⟨g,a+2,Zn⟩=Zo (Zs D y B))) zK (by exact⟨z3,g0,f,f0,f1,f2⟩) (fun hHeld=>?_)
  refine tk 0 ?_
  refine tk 1 ?_
  refine tk 2 ?_
  refine tk 3 ?_
  refine tk 4 ?_
  refine tk 5 ?_
  refine tk 6 ?_
  refine tk 7 ?_
  refine tk 8 ?_
  refine tk 9 ?_
  refine tk 10 ?_
  refine iT 11 fun K hK=>?_
  go_simp
  go_at_call 100
  refine (N.out W.drew (x.out.trans (k.mono x.out.size))).mono ?_
  rintro e w1 ⟨Z,rfl,r,u⟩
  have o:Bw W w1:=k.trans (r.mono k.size)
  refine hK.out _ _ (Q.out _ o) (fun hHeld=>?_)
  clear hK K
  have Y:=Lib.hid u
  clear u r o
  refine tk 12 ?_
  refine wpAnyH_done zK ?_ _
  go_simp
  go_wp2_with fail
  exact Y.out
theorem H4 (P:Ending->Zw->Prop) (x1:Int) (x2:ByteArray) (ka:Option Addr) (s y kl kc:Nat) (v:Zv) (w:Zw) (p q:Nat) (nm:ByteArray) (U:p<w.heap.size) (ae:0<s) (ad:(1:Int)<(s:Int)) (g0:w.cell? ⟨p,q,Zn⟩=Zo (Zt nm)) (b off n cap:Nat) (r:b<w.heap.size) (hn:0<n) (ag:(1:Int)<(n:Int)) (Q:Int) (F Z:Option Addr) (ul L E N:Nat) (m:ByteArray) (g1:w.cell? ⟨p,q+1,Zn⟩=Zo (Zt m)) (a0:Int) (T Y:Option Addr) (H ac G I:Nat) (J:w.cell? ⟨b,off+3,Zn⟩=Zo (Zi Zk a0)) (X:w.cell? ⟨b,off+3+1,Zn⟩=Zo (Zs T H ac)) (O:w.cell? ⟨b,off+3+2,Zn⟩=Zo (Zs Y G I)) (g c n2 i:Nat) (h:g<w.heap.size) (af:0<n2) (f:w.cell? ⟨b,off+2,Zn⟩=Zo (Zs (Zo ⟨g,c,Zn⟩) n2 i)) (f0:w.cell? ⟨g,c,Zn⟩=Zo (Zi Zk Q)) (f1:w.cell? ⟨g,c+1,Zn⟩=Zo (Zs F ul L)) (f2:w.cell? ⟨g,c+2,Zn⟩=Zo (Zs Z E N)) (R:Zv->Zw->Prop) (M:(∀ V,Bw w V->Calls prog 100 #[v,Zt nm,Za #[Zi Zk a0,Zs T H ac,Zs Y G I]] V fun e d=>∃ v,e=Zr v/\Bw V d/\R v d)/\∀ v V,Bw w V->R v V->Calls prog 100 #[v,Zt m,Za #[Zi Zk Q,Zs F ul L,Zs Z E N]] V fun e d=>∃ v,e=Zr v/\Bw V d/\P (Zr v) d) :
  Calls prog 74 #[v,Za #[Zi Zk 35,Zi Zk x1,Zt x2,Zs (Zo ⟨p,q,Zn⟩) s y,Zs ka kl kc],Zi Zk 2,Zs (Zo ⟨b,off,Zn⟩) n cap] w P:=by
 obtain⟨W,x⟩:=iw (w.alloc (Zc #[Zi Zk 35,Zi Zk x1,Zt x2,Zs (Zo ⟨p,q,Zn⟩) s y,Zs ka kl kc] 40));have a:Bw w W:=by rw[x];exact gF _ _
 have k:=heap_alloc_last w (Zc #[Zi Zk 35,Zi Zk x1,Zt x2,Zs (Zo ⟨p,q,Zn⟩) s y,Zs ka kl kc] 40);have ab:w.heap.size<W.heap.size:=by rw[x];simp
 rw[<- x]at k;obtain⟨z0,z1,z2,z3,z4⟩:=gE k;have g0:=kC a g0 U;have g1:=kC a g1 U;have J:=kC a J r;have X:=kC a X r;have O:=kC a O r;have f:=kC a f r;have f0:=kC a f0 h;have f1:=kC a f1 h;have f2:=kC a f2 h;have C:Hid (∀V,Bw W V->(fun (d:Zw)=>d.cell? ⟨w.heap.size,3,Zn⟩=Zo (Zs (Zo ⟨p,q,Zn⟩) s y)/\d.cell? ⟨p,q,Zn⟩=Zo (Zt nm)/\d.cell? ⟨p,q+1,Zn⟩=Zo (Zt m)/\d.cell? ⟨b,off+3,Zn⟩=Zo (Zi Zk a0)/\d.cell? ⟨b,off+3+1,Zn⟩=Zo (Zs T H ac)/\d.cell? ⟨b,off+3+2,Zn⟩=Zo (Zs Y G I)/\d.cell? ⟨b,off+2,Zn⟩=Zo (Zs (Zo ⟨g,c,Zn⟩) n2 i)/\d.cell? ⟨g,c,Zn⟩=Zo (Zi Zk Q)/\d.cell? ⟨g,c+1,Zn⟩=Zo (Zs F ul L)/\d.cell? ⟨g,c+2,Zn⟩=Zo (Zs Z E N)) V):=fun V l=>⟨kC l z3 ab,kC l g0 (Zd U a.size),kC l g1 (Zd U a.size),kC l J (Zd r a.size),kC l X (Zd r a.size),kC l O (Zd r a.size),kC l f (Zd r a.size),kC l f0 (Zd h a.size),kC l f1 (Zd h a.size),kC l f2 (Zd h a.size)⟩;have o:=a7 a;have t:Bw W W.drew:=(Below.refl _ _).drew;have M:=Lib.hid M;clear a k;go_in;go_wp2_with fail;rw[<- x];clear x;refine wp_region_held_drew (S:=(fun d=>d.cell? ⟨w.heap.size,3,Zn⟩=Zo (Zs (Zo ⟨p,q,Zn⟩) s y)/\d.cell? ⟨p,q,Zn⟩=Zo (Zt nm)/\d.cell? ⟨p,q+1,Zn⟩=Zo (Zt m)/\d.cell? ⟨b,off+3,Zn⟩=Zo (Zi Zk a0)/\d.cell? ⟨b,off+3+1,Zn⟩=Zo (Zs T H ac)/\d.cell? ⟨b,off+3+2,Zn⟩=Zo (Zs Y G I)/\d.cell? ⟨b,off+2,Zn⟩=Zo (Zs (Zo ⟨g,c,Zn⟩) n2 i)/\d.cell? ⟨g,c,Zn⟩=Zo (Zi Zk Q)/\d.cell? ⟨g,c+1,Zn⟩=Zo (Zs F ul L)/\d.cell? ⟨g,c+2,Zn⟩=Zo (Zs Z E N))) zK (by exact⟨z3,g0,g1,J,X,O,f,f0,f1,f2⟩) (fun hHeld=>?_);refine tk 0 ?_;refine tk 1 ?_;refine tk 2 ?_;refine tk 3 ?_;refine tk 4 ?_;refine tk 5 ?_;refine tk 6 ?_;refine tk 7 ?_;refine tk 9 ?_;refine tk 10 ?_;refine tk 11 ?_;refine tk 12 ?_;refine tk 13 ?_;refine tk 14 ?_;refine tk 15 ?_;refine tk 16 ?_;refine tk 17 ?_;refine tk 18 ?_;refine iT 8 fun K hK=>?_;go_simp;go_at_call 100;refine (M.out.1 W.drew (o.out.trans (t.mono o.out.size))).mono ?_;rintro e w1 ⟨v1,rfl,u,A⟩;have j:Bw W w1:=t.trans (u.mono t.size);refine hK.out _ _ (C.out _ j) (fun hHeld=>?_);clear hK K;refine iT 19 fun K hK=>?_;go_simp;go_at_call 100;refine (M.out.2 _ _ (o.out.trans (j.mono o.out.size)) A).mono ?_;rintro e w2 ⟨v2,rfl,B,D⟩;have z:Bw W w2:=j.trans (B.mono j.size);refine hK.out _ _ (C.out _ z) (fun hHeld=>?_);clear hK K;have HP:=Lib.hid D;clear A u j D B z;refine tk 20 ?_;refine wpAnyH_done zK ?_ _;go_simp;go_wp2_with fail;exact HP.out
theorem yN (M m:Nat) (S S1:Nat->Prop) (t:T (m+1)) (l:List (ByteArray × K (M+1))) (a:List (K (M+1))) (i:Nat) (c0 c1 c2 c3 c4 v U:Zv) (w:Zw) (ht:fZ S w (m+1) t c0 c1 c2 c3 c4) (hv:gM S w (M+1) l v) (hr:gU S1 w (a8 S w (M+1)) a U) (F:Bd S w) (H:Bd S1 w) (hl:l.length<=2000000) (ay:a.length=i) (P:∀ x,x∈a->gV (M+1) x=true) (an:tw (Nd.sort t) (Nd.names t) i a) :
  Calls prog 74 #[v,Za #[c0,c1,c2,c3,c4],Zi Zk (i:Int),U] w (jr S (M+1) (ik (Nd.sort t) (Nd.names t) i a l) w):=by
 obtain⟨rfl,rfl,rfl,hs,aD,aG,h3,h4,⟨na,nl,nc,rfl,aF⟩,⟨ka,kl,kc,rfl,aB⟩⟩:=ht;obtain⟨n,Q,o3,o4,o5⟩:=an;have G:∀l',ik (Nd.sort t) (Nd.names t) i a l=l'->l'=l->∀X,Bw w X->jr S (M+1) (ik (Nd.sort t) (Nd.names t) i a l) w (Zr v) X:=fun l' h1 h2 X A=>by rw[h1,h2];exact jr.none hv F A
 have HB:∀(x:ByteArray)(k:K (M+1))(d0 d1 d2:Zv),x.size<=maxLen->a8 S w (M+1) k d0 d1 d2->∀V,Bw w V->Calls prog 100 #[v,Zt x,Za #[d0,d1,d2]] V fun e X=>∃v,e=Zr v/\Bw V X/\jr S (M+1) (l++[(x,k)]) w (Zr v) X:=by intro x k d0 d1 d2 R hk V W;refine (rk (M+1) S l v x k d0 d1 d2 V (hv.keep (a6 W F) fun _ h=>h) (hk.keep (a6 W F) fun _ h=>h) (fun b A=>Zd (F b A) W.size) om R).mono ?_;rintro e X h;obtain⟨A,v',rfl,-⟩:=id h;exact⟨v',rfl,A,h.wide W⟩
 generalize az:Nd.sort t=op at *;generalize aH:Nd.names t=ns at *;by_cases ad:op=20
 ·subst ad;by_cases hi:i=1
  ·subst hi;obtain⟨p,q,cap,u,O,r⟩:=ld h3 F (by have:=n zS;omega);cases u
   obtain⟨b,off,c,u0,ua,ta,ul,uc,L,N,rfl,A,I,J,B,z⟩:=jR hr H 0 om;simp only[Nat.zero_mul,Nat.add_zero]at I J B;have s:=gr (d:=Ze) (show 0<ns.length by have:=n zS;omega);have j:=gr (d:=(zU:K (M+1))) (show 0<a.length by omega);obtain⟨f,fz⟩:=r 0 (by have:=n zS;omega);have e:ik 20 ns 1 a l=l++[(ns[0]'(by have:=n zS;omega),a[0]'om)]:=by rw[ik,if_pos zS,s,j]
   rw[e];exact Bz 20 zS _ _ _ _ _ _ _ _ v w p q _ O (by have:=n zS;omega) f b off a.length c A om u0 ua ta ul uc L N I J B (HB _ _ _ _ _ fz z)
  ·have y:((i:Int)==1)=false:=by simp;omega
   exact oH 20 zS _ _ _ _ _ _ _ _ _ v U w i y (G _ (by rw[ik,if_neg om,if_neg om,if_neg om]) rfl)
 by_cases ah:op=42
 ·subst ah;by_cases hi:i=1
  ·subst hi;obtain⟨p,q,cap,u,O,r⟩:=ld h3 F (by have:=n zS;omega);cases u
   obtain⟨b,off,c,u0,ua,ta,ul,uc,L,N,rfl,A,I,J,B,z⟩:=jR hr H 0 om;simp only[Nat.zero_mul,Nat.add_zero]at I J B;have s:=gr (d:=Ze) (show 0<ns.length by have:=n zS;omega);have j:=gr (d:=(zU:K (M+1))) (show 0<a.length by omega);obtain⟨f,fz⟩:=r 0 (by have:=n zS;omega);have e:ik 42 ns 1 a l=l++[(ns[0]'(by have:=n zS;omega),a[0]'om)]:=by rw[ik,if_pos zS,s,j]
   rw[e];exact Bz 42 zS _ _ _ _ _ _ _ _ v w p q _ O (by have:=n zS;omega) f b off a.length c A om u0 ua ta ul uc L N I J B (HB _ _ _ _ _ fz z)
  ·have y:((i:Int)==1)=false:=by simp;omega
   exact oH 42 zS _ _ _ _ _ _ _ _ _ v U w i y (G _ (by rw[ik,if_neg om,if_neg om,if_neg om]) rfl)
 by_cases aj:op=32
 ·subst aj;by_cases hi:i=1
  ·subst hi;obtain⟨p,q,cap,u,O,r⟩:=ld h3 F (by have:=n zS;omega);cases u
   obtain⟨b,off,c,u0,ua,ta,ul,uc,L,N,rfl,A,I,J,B,z⟩:=jR hr H 0 om;simp only[Nat.zero_mul,Nat.add_zero]at I J B;have s:=gr (d:=Ze) (show 0<ns.length by have:=n zS;omega);have j:=gr (d:=(zU:K (M+1))) (show 0<a.length by omega);obtain⟨f,fz⟩:=r 0 (by have:=n zS;omega);have oj:=P _ (Zg (show 0<a.length by omega));obtain⟨b2,o,v0,va,wa,Y,vc,wl,wc,rfl,E,C,f0,f1,f2,D,Z⟩:=kQ z F (.inl (by rw[<- j];exact o3 rfl rfl)) oj;have e:ik 32 ns 1 a l=l++[(ns[0]'(by have:=n zS;omega),mN (a[0]'om))]:=by rw[ik,if_neg om,if_pos zS,s,j]
   rw[e];exact rU 32 zS _ _ _ _ _ _ _ _ v w p q _ O (by have:=n zS;omega) f b off a.length c A om v0 va wa Y vc wl wc b2 o L N C E B f0 f1 f2 (HB _ _ _ _ _ fz D)
  ·have y:((i:Int)==1)=false:=by simp;omega
   exact oH 32 zS _ _ _ _ _ _ _ _ _ v U w i y (G _ (by rw[ik,if_neg om,if_neg om,if_neg om]) rfl)
 by_cases ag:op=33
 ·subst ag;by_cases hi:i=1
  ·subst hi;obtain⟨p,q,cap,u,O,r⟩:=ld h3 F (by have:=n zS;omega);cases u
   obtain⟨b,off,c,u0,ua,ta,ul,uc,L,N,rfl,A,I,J,B,z⟩:=jR hr H 0 om;simp only[Nat.zero_mul,Nat.add_zero]at I J B;have s:=gr (d:=Ze) (show 0<ns.length by have:=n zS;omega);have j:=gr (d:=(zU:K (M+1))) (show 0<a.length by omega);obtain⟨f,fz⟩:=r 0 (by have:=n zS;omega);have oj:=P _ (Zg (show 0<a.length by omega));obtain⟨b2,o,v0,va,wa,Y,vc,wl,wc,rfl,E,C,f0,f1,f2,D,Z⟩:=kQ z F (.inr (by rw[<- j];exact o4 zS rfl)) oj;have e:ik 33 ns 1 a l=l++[(ns[0]'(by have:=n zS;omega),mN (a[0]'om))]:=by rw[ik,if_neg om,if_pos zS,s,j]
   rw[e];exact rU 33 zS _ _ _ _ _ _ _ _ v w p q _ O (by have:=n zS;omega) f b off a.length c A om v0 va wa Y vc wl wc b2 o L N C E B f0 f1 f2 (HB _ _ _ _ _ fz D)
  ·have y:((i:Int)==1)=false:=by simp;omega
   exact oH 33 zS _ _ _ _ _ _ _ _ _ v U w i y (G _ (by rw[ik,if_neg om,if_neg om,if_neg om]) rfl)
 by_cases ai:op=34
 ·subst ai;by_cases hi:i=1
  ·subst hi;obtain⟨p,q,cap,u,O,r⟩:=ld h3 F (by have:=n zS;omega);cases u
   obtain⟨b,off,c,u0,ua,ta,ul,uc,L,N,rfl,A,I,J,B,z⟩:=jR hr H 0 om;simp only[Nat.zero_mul,Nat.add_zero]at I J B;have s:=gr (d:=Ze) (show 0<ns.length by have:=n zS;omega);have j:=gr (d:=(zU:K (M+1))) (show 0<a.length by omega);obtain⟨f,fz⟩:=r 0 (by have:=n zS;omega);have oj:=P _ (Zg (show 0<a.length by omega));obtain⟨b2,o,v0,va,wa,Y,vc,wl,wc,rfl,E,C,f0,f1,f2,D,Z⟩:=kQ z F (.inr (by rw[<- j];exact o4 zS rfl)) oj;have e:ik 34 ns 1 a l=l++[(ns[0]'(by have:=n zS;omega),mN (a[0]'om))]:=by rw[ik,if_neg om,if_pos zS,s,j]
   rw[e];exact rU 34 zS _ _ _ _ _ _ _ _ v w p q _ O (by have:=n zS;omega) f b off a.length c A om v0 va wa Y vc wl wc b2 o L N C E B f0 f1 f2 (HB _ _ _ _ _ fz D)
  ·have y:((i:Int)==1)=false:=by simp;omega
   exact oH 34 zS _ _ _ _ _ _ _ _ _ v U w i y (G _ (by rw[ik,if_neg om,if_neg om,if_neg om]) rfl)
 by_cases af:op=43
 ·subst af;by_cases hi:i=1
  ·subst hi;obtain⟨p,q,cap,u,O,r⟩:=ld h3 F (by have:=n zS;omega);cases u
   obtain⟨b,off,c,u0,ua,ta,ul,uc,L,N,rfl,A,I,J,B,z⟩:=jR hr H 0 om;simp only[Nat.zero_mul,Nat.add_zero]at I J B;have s:=gr (d:=Ze) (show 0<ns.length by have:=n zS;omega);have j:=gr (d:=(zU:K (M+1))) (show 0<a.length by omega);obtain⟨f,fz⟩:=r 0 (by have:=n zS;omega);have oj:=P _ (Zg (show 0<a.length by omega));obtain⟨b2,o,v0,va,wa,Y,vc,wl,wc,rfl,E,C,f0,f1,f2,D,Z⟩:=kQ z F (.inr (by rw[<- j];exact o4 zS rfl)) oj;have e:ik 43 ns 1 a l=l++[(ns[0]'(by have:=n zS;omega),mN (a[0]'om))]:=by rw[ik,if_neg om,if_pos zS,s,j]
   rw[e];exact rU 43 zS _ _ _ _ _ _ _ _ v w p q _ O (by have:=n zS;omega) f b off a.length c A om v0 va wa Y vc wl wc b2 o L N C E B f0 f1 f2 (HB _ _ _ _ _ fz D)
  ·have y:((i:Int)==1)=false:=by simp;omega
   exact oH 43 zS _ _ _ _ _ _ _ _ _ v U w i y (G _ (by rw[ik,if_neg om,if_neg om,if_neg om]) rfl)
 by_cases ak:op=35
 ·subst ak;by_cases hi:i=2
  ·subst hi;obtain⟨p,q,cap,u,O,r⟩:=ld h3 F (by have:=Q rfl;omega);cases u
   obtain⟨b,off,c,u0,ua,ta,ul,uc,L,N,rfl,A,I,J,B,z⟩:=jR hr H 0 om;simp only[Nat.zero_mul,Nat.add_zero]at I J B;have s:=gr (d:=Ze) (show 0<ns.length by have:=Q rfl;omega);have j:=gr (d:=(zU:K (M+1))) (show 0<a.length by omega);obtain⟨f,fz⟩:=r 0 (by have:=Q rfl;omega);obtain⟨g,gz⟩:=r 1 (by have:=Q rfl;omega);have aq:=gr (d:=Ze) (show 1<ns.length by have:=Q rfl;omega);have au:=gr (d:=(zU:K (M+1))) (show 1<a.length by omega);have oj:=P _ (Zg (show 0<a.length by omega));obtain⟨b2,o,v0,va,wa,Y,vc,wl,wc,rfl,E,C,f0,f1,f2,D,Z⟩:=kQ z F (.inr (by rw[<- j];exact o5 rfl rfl)) oj;obtain⟨b',av,ax,a0,aa,da,al,ac,dl,dc,am,aE,q0,q1,q2,ap⟩:=jR hr H 1 om;cases am
   simp only[Nat.one_mul]at q0 q1 q2;have e:ik 35 ns 2 a l=(l++[(ns[0]'(by have:=Q rfl;omega),a[1]'om)])++[(ns[1]'(by have:=Q rfl;omega),mN (a[0]'om))]:=by rw[ik,if_neg om,if_neg om,if_pos zS,s,j,aq,au]
   rw[e];refine H4 _ _ _ _ _ _ _ _ v w p q _ O (by have:=Q rfl;omega) (by have:=Q rfl;omega) f b off a.length c A om om v0 va wa Y vc wl wc _ g a0 aa da al ac dl dc q0 q1 q2 b2 o L N C E B f0 f1 f2 (fun v X=>jr S (M+1) (l++[(ns[0]'(by have:=Q rfl;omega),a[1]'om)]) w (Zr v) X) ⟨HB _ _ _ _ _ fz ap,fun v1 V W hP=>?_⟩;obtain⟨aA,aI,ao,ab⟩:=hP;cases ao
   have ar:∀b,Ov S w.heap.size Zn V b->b<V.heap.size:=Ov.lt F W.size;refine (rk (M+1) (Ov S w.heap.size Zn V) _ v1 _ (mN (a[0]'om)) _ _ _ V ab (D.keep (a6 W F) fun _ h=>.inl h) ar zE gz).mono ?_;rintro e X ⟨A,v',rfl,ae⟩;refine⟨v',rfl,A,W.trans (A.mono W.size),v',rfl,ae.keep (fun _ _=>rfl) fun x R=>?_⟩;have aC:=W.size;have aw:=A.size;rcases R with (R|R)|R;·exact .inl R
   ·exact .inr ⟨R.1,om,R.2.2⟩
   ·exact .inr ⟨om,R.2⟩
  ·have y:((i:Int)==2)=false:=by simp;omega
   exact Bj _ _ _ _ _ _ _ _ _ v U w i y (G _ (by rw[ik,if_neg om,if_neg om,if_neg om]) rfl)
 exact DV _ _ _ _ _ _ _ _ _ v U w op i (by simpa using ad) (by simpa using ah) (by simpa using aj) (by simpa using ag) (by simpa using ai) (by simpa using af) (by simpa using ak) (G _ (by rw[ik,if_neg om,if_neg om,if_neg om]) rfl)
end Go.Proofs.YtcfojmaccikgeaaGreatDoor
