import Derived.Test.YtcfojmaccikgeaaGreatDoorB40
open Go.Value renaming slice→Zs,int→Zi,string→Zt,pointer→Zp,agg→Za,tuple→Zu
open Go.IntKind renaming i64→Zk
open Go.Ending renaming returned→Zr
open Go.Obj renaming cells→Zc
open Option renaming none→Zn,some→Zo
open Go renaming World→Zw,Value→Zv
open Nat renaming le_refl→Zl
open List renaming getElem_mem→Zg,all_eq_true→ZC
namespace Go.Proofs.YtcfojmaccikgeaaGreatDoor
open Go.RowKit Go.Proofs.Tryz
set_option maxRecDepth 100000
set_option maxHeartbeats 16000000
variable {S S' F:ZP} {w V w' w0:Zw} {M n m lb cb p q pl X Y k j:Nat} {v c0 c1 c2 c3 c4 sv skv kv:Zv} {t:TypeId} {cs:Array Zv} {xs:List Zv} {o:Option Nat}
def lR(S:ZP)(M:Nat)(env:jE M)(w:Zw)(e:Ending)(w':Zw):Prop:=
 Bw w w' /\ ∃n a,e=Zr a/\gG (Ov S w.heap.size Zn w') w' M n env a
theorem tR{env:jE M}(b:Bw w V)(a:Bd S w)(h:gG S w M n env v):gG (Ov S w.heap.size Zn V) V M n env v:=h.keep (a6 b a) fun _ h=>.inl h
theorem zf{W:Zw}(a:Bw w V)(c:Bw V W):∀b,Ov (Ov S w.heap.size Zn V) V.heap.size Zn W b->Ov S w.heap.size Zn W b:=by
 intro b h;have:=a.size;have:=c.size;rcases h with (h|h)|h;·exact .inl h
 ·exact .inr ⟨h.1,om,zS⟩
 ·exact .inr ⟨om,h.2.1,zS⟩
theorem A9 (S:ZP) (M n:Nat) (env:jE M) (op:Int) (i b:Nat) (d:Zv) (w:Zw) (a:gG S w M n env d) (j:w.cell? ⟨b,0,Zn⟩=Zo (Zi Zk op)) (k:w.cell? ⟨b,6,Zn⟩=Zo d) (hi:¬ (i:Int)=o7 op) :
  Calls prog 132 #[Zp (Zo ⟨b,0,Zn⟩),Zi Zk (i:Int)] w (lR S M env w):=by
 obtain⟨c,rfl⟩:∃c,d=Zp c:=by rcases a.ptr with ⟨-,rfl⟩|⟨l,rfl,-⟩<;>exact⟨_,rfl⟩
 have f:Hid (Calls prog 140 _ w _):=jI op w;have g:Hid (lR S M env w (Zr (Zp c)) w):=⟨Below.refl _ _,n,_,rfl,a.keep (fun _ _=>rfl) fun _ h=>.inl h⟩;clear a;go_in;go_wp2_with fail;refine f.out.mono ?_;rintro e w1 ⟨rfl,rfl⟩;generalize o7 op=bp at *;clear f;go_wp2;go_ret;exact g.out
theorem zo (S:ZP) (M n:Nat) (env:jE M) (op:Int) (a:Nat) (Z:Zv) (nb no u t g o r cap j:Nat) (s:ZN) (k:K (M+1)) (w:Zw) (N:Bd S w) (q:gG S w M n env Z) (F:w.cell? ⟨a,0,Zn⟩=Zo (Zi Zk op)) (G:w.cell? ⟨a,6,Zn⟩=Zo Z) (H:w.cell? ⟨a,3,Zn⟩=Zo (Zs (Zo ⟨nb,no,Zn⟩) (u+1) t)) (I:w.cell? ⟨nb,no,Zn⟩=Zo (Zt s)) (J:w.cell? ⟨a,8,Zn⟩=Zo (Zs (Zo ⟨g,o,Zn⟩) (r+1) cap)) (L:w.cell? ⟨g,o,Zn⟩=Zo (Zp (Zo ⟨j,0,Zn⟩))) (hs:s.size<=maxLen) (hk:b9 S w (M+1) k (Zp (Zo ⟨j,0,Zn⟩))) (D:op=20∨op=42) :
  Calls prog 132 #[Zp (Zo ⟨a,0,Zn⟩),Zi Zk 1] w (lR S M ((s,k) :: env) w):=by
 obtain⟨l,rfl⟩:∃l,Z=Zp l:=by rcases q.ptr with ⟨-,rfl⟩|⟨O,rfl,-⟩<;>exact⟨_,rfl⟩
 have v:Hid (Calls prog 140 _ w _):=jI op w;have p:o7 op=1:=by rcases D with rfl|rfl<;>rfl
 rw[p]at v;have c:Bw w w.drew:=(Below.refl _ _).drew;have E:Hid (Calls prog 168 #[Zp l,Zt s,Zp (Zo ⟨j,0,Zn⟩)] w.drew _):=qp (Ov S w.heap.size Zn w.drew) M n env _ s k j w.drew (tR c N q) (rE c N hk) (Ov.lt N (Zl _)) hs;clear q hk N;rcases D with rfl|rfl;·go_in;go_wp2_with fail;refine v.out.mono ?_;rintro e w ⟨rfl,rfl⟩;clear v p;have x:w.drew.cell? ⟨a,0,Zn⟩=Zo (Zi Zk 20):=F;have y:w.drew.cell? ⟨a,6,Zn⟩=Zo (Zp l):=G;have z:w.drew.cell? ⟨a,3,Zn⟩=Zo (Zs (Zo ⟨nb,no,Zn⟩) (u+1) t):=H;have A:w.drew.cell? ⟨nb,no,Zn⟩=Zo (Zt s):=I;have B:w.drew.cell? ⟨a,8,Zn⟩=Zo (Zs (Zo ⟨g,o,Zn⟩) (r+1) cap):=J;have C:w.drew.cell? ⟨g,o,Zn⟩=Zo (Zp (Zo ⟨j,0,Zn⟩)):=L;have R:=d8 F;have T:=d8 G;have U:=d8 H;have W:=d8 I;have X:=d8 J;have Y:=d8 L;have m:Hid (∀b:Zw,Below w.drew.heap.size w.drew b->b.cell? ⟨a,0,Zn⟩=Zo (Zi Zk 20)/\b.cell? ⟨a,6,Zn⟩=Zo (Zp l)/\b.cell? ⟨a,3,Zn⟩=Zo (Zs (Zo ⟨nb,no,Zn⟩) (u+1) t)/\b.cell? ⟨nb,no,Zn⟩=Zo (Zt s)/\b.cell? ⟨a,8,Zn⟩=Zo (Zs (Zo ⟨g,o,Zn⟩) (r+1) cap)/\b.cell? ⟨g,o,Zn⟩=Zo (Zp (Zo ⟨j,0,Zn⟩))):=fun b h=>⟨kC h x R,kC h y T,kC h z U,kC h A W,kC h B X,kC h C Y⟩;go_upto_region 7 with fail;refine wp_region_held_drew (S:=fun i=>i.cell? ⟨a,0,Zn⟩=Zo (Zi Zk 20)/\i.cell? ⟨a,6,Zn⟩=Zo (Zp l)/\i.cell? ⟨a,3,Zn⟩=Zo (Zs (Zo ⟨nb,no,Zn⟩) (u+1) t)/\i.cell? ⟨nb,no,Zn⟩=Zo (Zt s)/\i.cell? ⟨a,8,Zn⟩=Zo (Zs (Zo ⟨g,o,Zn⟩) (r+1) cap)/\i.cell? ⟨g,o,Zn⟩=Zo (Zp (Zo ⟨j,0,Zn⟩))) zK ⟨x,y,z,A,B,C⟩ (fun hHeld=>?_);have Q:w.drew.heap.size=w.heap.size:=rfl;generalize w.drew=V at *;refine tk 0 ?_;refine tk 1 ?_;refine tk 2 ?_;refine tk 3 ?_;refine tk 4 ?_;refine tk 5 ?_;refine tk 6 ?_;refine tk 7 ?_;refine tk 8 ?_;refine tk 9 ?_;refine tk 10 ?_;refine tk 11 ?_;refine tk 12 ?_;refine i6 13 fun K hK=>?_;go_simp;go_at_call 168;refine E.out.mono ?_;rintro e w2 ⟨O,rfl,f,d⟩;have P:Hid (lR S M ((s,k) :: env) w (Zr (Zp (Zo ⟨O,0,Zn⟩))) w2):=⟨c.trans (f.mono c.size),_,_,rfl,d.keep (fun _ _=>rfl) (zf c f)⟩;clear d E;refine hK.out _ _ (m.out _ f) (fun hHeld=>?_);clear hK K;refine tk 14 ?_;refine wpAnyH_done zK ?_ _;go_simp;go_wp2;go_ret;exact P.out
 ·go_in;go_wp2_with fail;refine v.out.mono ?_;rintro e w ⟨rfl,rfl⟩;clear v p;have x:w.drew.cell? ⟨a,0,Zn⟩=Zo (Zi Zk 42):=F;have y:w.drew.cell? ⟨a,6,Zn⟩=Zo (Zp l):=G;have z:w.drew.cell? ⟨a,3,Zn⟩=Zo (Zs (Zo ⟨nb,no,Zn⟩) (u+1) t):=H;have A:w.drew.cell? ⟨nb,no,Zn⟩=Zo (Zt s):=I;have B:w.drew.cell? ⟨a,8,Zn⟩=Zo (Zs (Zo ⟨g,o,Zn⟩) (r+1) cap):=J;have C:w.drew.cell? ⟨g,o,Zn⟩=Zo (Zp (Zo ⟨j,0,Zn⟩)):=L;have R:=d8 F;have T:=d8 G;have U:=d8 H;have W:=d8 I;have X:=d8 J;have Y:=d8 L;have m:Hid (∀b:Zw,Below w.drew.heap.size w.drew b->b.cell? ⟨a,0,Zn⟩=Zo (Zi Zk 42)/\b.cell? ⟨a,6,Zn⟩=Zo (Zp l)/\b.cell? ⟨a,3,Zn⟩=Zo (Zs (Zo ⟨nb,no,Zn⟩) (u+1) t)/\b.cell? ⟨nb,no,Zn⟩=Zo (Zt s)/\b.cell? ⟨a,8,Zn⟩=Zo (Zs (Zo ⟨g,o,Zn⟩) (r+1) cap)/\b.cell? ⟨g,o,Zn⟩=Zo (Zp (Zo ⟨j,0,Zn⟩))):=fun b h=>⟨kC h x R,kC h y T,kC h z U,kC h A W,kC h B X,kC h C Y⟩;go_upto_region 7 with fail;refine wp_region_held_drew (S:=fun i=>i.cell? ⟨a,0,Zn⟩=Zo (Zi Zk 42)/\i.cell? ⟨a,6,Zn⟩=Zo (Zp l)/\i.cell? ⟨a,3,Zn⟩=Zo (Zs (Zo ⟨nb,no,Zn⟩) (u+1) t)/\i.cell? ⟨nb,no,Zn⟩=Zo (Zt s)/\i.cell? ⟨a,8,Zn⟩=Zo (Zs (Zo ⟨g,o,Zn⟩) (r+1) cap)/\i.cell? ⟨g,o,Zn⟩=Zo (Zp (Zo ⟨j,0,Zn⟩))) zK ⟨x,y,z,A,B,C⟩ (fun hHeld=>?_);have Q:w.drew.heap.size=w.heap.size:=rfl;generalize w.drew=V at *;refine tk 0 ?_;refine tk 1 ?_;refine tk 2 ?_;refine tk 3 ?_;refine tk 4 ?_;refine tk 5 ?_;refine tk 6 ?_;refine tk 7 ?_;refine tk 8 ?_;refine tk 9 ?_;refine tk 10 ?_;refine tk 11 ?_;refine tk 12 ?_;refine i6 13 fun K hK=>?_;go_simp;go_at_call 168;refine E.out.mono ?_;rintro e w2 ⟨O,rfl,f,d⟩;have P:Hid (lR S M ((s,k) :: env) w (Zr (Zp (Zo ⟨O,0,Zn⟩))) w2):=⟨c.trans (f.mono c.size),_,_,rfl,d.keep (fun _ _=>rfl) (zf c f)⟩;clear d E;refine hK.out _ _ (m.out _ f) (fun hHeld=>?_);clear hK K;refine tk 14 ?_;refine wpAnyH_done zK ?_ _;go_simp;go_wp2;go_ret;exact P.out
theorem A8 (S:ZP) (M n:Nat) (env:jE M) (op:Int) (a:Nat) (G:Zv) (nb no E D g o C cap l:Nat) (s:ZN) (k:K (M+1)) (w:Zw) (B:Bd S w) (j:gG S w M n env G) (T:w.cell? ⟨a,0,Zn⟩=Zo (Zi Zk op)) (U:w.cell? ⟨a,6,Zn⟩=Zo G) (W:w.cell? ⟨a,3,Zn⟩=Zo (Zs (Zo ⟨nb,no,Zn⟩) (E+1) D)) (X:w.cell? ⟨nb,no,Zn⟩=Zo (Zt s)) (Y:w.cell? ⟨a,8,Zn⟩=Zo (Zs (Zo ⟨g,o,Zn⟩) (C+1) cap)) (Z:w.cell? ⟨g,o,Zn⟩=Zo (Zp (Zo ⟨l,0,Zn⟩))) (hs:s.size<=maxLen) (hk:b9 S w (M+1) k (Zp (Zo ⟨l,0,Zn⟩))) (ok:gF (M+1) k=true) (x:op=32∨op=33∨op=34∨op=43) (u:Kd.sort k=4∨Kd.sort k=6) :
  Calls prog 132 #[Zp (Zo ⟨a,0,Zn⟩),Zi Zk 1] w (lR S M ((s,mQ k) :: env) w):=by
 obtain⟨m,rfl⟩:∃m,G=Zp m:=by rcases j.ptr with ⟨-,rfl⟩|⟨sb,rfl,-⟩<;>exact⟨_,rfl⟩
 have F:Hid (Calls prog 140 _ w _):=jI op w;have t:o7 op=1:=by rcases x with rfl|rfl|rfl|rfl<;>rfl
 rw[t]at F;have b:Bw w w.drew:=(Below.refl _ _).drew;obtain⟨v,g2,o2,r,H,z,y,A⟩:=hk.within ok u;have I:Hid (Calls prog 167 _ w.drew _):=k5 w.drew l g2 o2 0 r H z y om;have J:Hid (Calls prog 168 #[Zp m,Zt s,Zp (Zo ⟨H,0,Zn⟩)] w.drew _):=qp (Ov S w.heap.size Zn w.drew) M n env _ s (mQ k) H w.drew (tR b B j) (rE b B A) (Ov.lt B (Zl _)) hs;have d:¬op=20/\¬op=42/\¬op=35:=om;obtain⟨d,ab,aa⟩:=d;clear j hk B z y A v ok u x;go_in;go_wp2_with fail;refine F.out.mono ?_;rintro e w ⟨rfl,rfl⟩;clear F t;have L:w.drew.cell? ⟨a,0,Zn⟩=Zo (Zi Zk op):=T;have N:w.drew.cell? ⟨a,6,Zn⟩=Zo (Zp m):=U;have O:w.drew.cell? ⟨a,3,Zn⟩=Zo (Zs (Zo ⟨nb,no,Zn⟩) (E+1) D):=W;have P:w.drew.cell? ⟨nb,no,Zn⟩=Zo (Zt s):=X;have Q:w.drew.cell? ⟨a,8,Zn⟩=Zo (Zs (Zo ⟨g,o,Zn⟩) (C+1) cap):=Y;have R:w.drew.cell? ⟨g,o,Zn⟩=Zo (Zp (Zo ⟨l,0,Zn⟩)):=Z;have l0:=d8 T;have l1:=d8 U;have l2:=d8 W;have l3:=d8 X;have l4:=d8 Y;have l5:=d8 Z;have q:Hid (∀c:Zw,Below w.drew.heap.size w.drew c->c.cell? ⟨a,0,Zn⟩=Zo (Zi Zk op)/\c.cell? ⟨a,6,Zn⟩=Zo (Zp m)/\c.cell? ⟨a,3,Zn⟩=Zo (Zs (Zo ⟨nb,no,Zn⟩) (E+1) D)/\c.cell? ⟨nb,no,Zn⟩=Zo (Zt s)/\c.cell? ⟨a,8,Zn⟩=Zo (Zs (Zo ⟨g,o,Zn⟩) (C+1) cap)/\c.cell? ⟨g,o,Zn⟩=Zo (Zp (Zo ⟨l,0,Zn⟩))):=fun c h=>⟨kC h L l0,kC h N l1,kC h O l2,kC h P l3,kC h Q l4,kC h R l5⟩;go_upto_region 10 with fail;refine wp_region_held_drew (S:=fun p=>p.cell? ⟨a,0,Zn⟩=Zo (Zi Zk op)/\p.cell? ⟨a,6,Zn⟩=Zo (Zp m)/\p.cell? ⟨a,3,Zn⟩=Zo (Zs (Zo ⟨nb,no,Zn⟩) (E+1) D)/\p.cell? ⟨nb,no,Zn⟩=Zo (Zt s)/\p.cell? ⟨a,8,Zn⟩=Zo (Zs (Zo ⟨g,o,Zn⟩) (C+1) cap)/\p.cell? ⟨g,o,Zn⟩=Zo (Zp (Zo ⟨l,0,Zn⟩))) zK ⟨L,N,O,P,Q,R⟩ (fun hHeld=>?_);have ac:w.drew.heap.size=w.heap.size:=rfl;generalize w.drew=V at *;refine tk 0 ?_;refine tk 1 ?_;refine tk 2 ?_;refine tk 3 ?_;refine tk 4 ?_;refine tk 5 ?_;refine tk 6 ?_;refine tk 7 ?_;refine tk 8 ?_;refine tk 9 ?_;refine tk 10 ?_;refine tk 11 ?_;refine tk 12 ?_;refine i6 13 fun K hK=>?_;go_simp;go_at_call 167;refine I.out.mono ?_;rintro e w2 ⟨rfl,rfl⟩;clear I;refine hK.out _ _ (q.out _ (Below.refl _ _)) (fun hHeld=>?_);clear hK K;refine i6 14 fun K hK=>?_;go_simp;go_at_call 168;refine J.out.mono ?_;rintro e w3 ⟨sb,rfl,i,f⟩;have HF:Hid (lR S M ((s,mQ k) :: env) w (Zr (Zp (Zo ⟨sb,0,Zn⟩))) w3):=⟨b.trans (i.mono b.size),_,_,rfl,f.keep (fun _ _=>rfl) (zf b i)⟩;clear f J;refine hK.out _ _ (q.out _ i) (fun hHeld=>?_);clear hK K;refine tk 15 ?_;refine wpAnyH_done zK ?_ _;go_simp;go_wp2;go_ret;exact HF.out
theorem xz (S:ZP) (M n:Nat) (env:jE M) (op:Int) (b:Nat) (W:Zv) (nb no A N g o z cap v y:Nat) (s j:ZN) (k x:K (M+1)) (w:Zw) (F:Bd S w) (r:gG S w M n env W) (J:op=35) (e0:w.cell? ⟨b,0,Zn⟩=Zo (Zi Zk 35)) (e1:w.cell? ⟨b,6,Zn⟩=Zo W) (e2:w.cell? ⟨b,3,Zn⟩=Zo (Zs (Zo ⟨nb,no,Zn⟩) (A+2) N)) (e3:w.cell? ⟨nb,no,Zn⟩=Zo (Zt s)) (e4:w.cell? ⟨b,8,Zn⟩=Zo (Zs (Zo ⟨g,o,Zn⟩) (z+2) cap)) (e5:w.cell? ⟨g,o,Zn⟩=Zo (Zp (Zo ⟨v,0,Zn⟩))) (e6:w.cell? ⟨nb,no+1,Zn⟩=Zo (Zt j)) (e7:w.cell? ⟨g,o+1,Zn⟩=Zo (Zp (Zo ⟨y,0,Zn⟩))) (hs:s.size<=maxLen) (T:j.size<=maxLen) (hk:b9 S w (M+1) k (Zp (Zo ⟨v,0,Zn⟩))) (ok:gF (M+1) k=true) (H:Kd.sort k=4) (hx:b9 S w (M+1) x (Zp (Zo ⟨y,0,Zn⟩))) :
  Calls prog 132 #[Zp (Zo ⟨b,0,Zn⟩),Zi Zk 2] w (lR S M ((j,mQ k) :: (s,x) :: env) w):=by
 obtain⟨B,rfl⟩:∃B,W=Zp B:=by rcases r.ptr with ⟨-,rfl⟩|⟨sb,rfl,-⟩<;>exact⟨_,rfl⟩
 have Q:Hid (Calls prog 140 _ w _):=jI op w;have G:o7 op=2:=by rw[J];rfl
 rw[G]at Q;have d:Bw w w.drew:=(Below.refl _ _).drew;obtain⟨I,g2,o2,E,P,u,t,L⟩:=hk.within ok (.inl H);have m3:=d8 u;have m0:=d8 t;have X:Hid (∀V,Below w.drew.heap.size w.drew V->Calls prog 167 #[Zp (Zo ⟨v,0,Zn⟩)] V fun e i=>e=Zr (Zp (Zo ⟨P,0,Zn⟩))/\i=V):=fun V hV=>k5 V v g2 o2 0 E P (kC hV u m3) (kC hV t m0) om;have Y:Hid (Calls prog 168 #[Zp B,Zt s,Zp (Zo ⟨y,0,Zn⟩)] w.drew _):=qp (Ov S w.heap.size Zn w.drew) M n env _ s x y w.drew (tR d F r) (rE d F hx) (Ov.lt F (Zl _)) hs;have C:=a7 F;have R:=a7 L;have i0:(0:Int)<(A:Int)+2:=om;have i1:(1:Int)<(A:Int)+2:=om;have i2:(0:Int)<(z:Int)+2:=om;have i3:(1:Int)<(z:Int)+2:=om;subst J;clear r hk F u t L I ok H hx;go_in;go_wp2_with fail;refine Q.out.mono ?_;rintro e w ⟨rfl,rfl⟩;clear Q G;have Z:w.drew.cell? ⟨b,0,Zn⟩=Zo (Zi Zk 35):=e0;have d1:w.drew.cell? ⟨b,6,Zn⟩=Zo (Zp B):=e1;have d2:w.drew.cell? ⟨b,3,Zn⟩=Zo (Zs (Zo ⟨nb,no,Zn⟩) (A+2) N):=e2;have d3:w.drew.cell? ⟨nb,no,Zn⟩=Zo (Zt s):=e3;have d4:w.drew.cell? ⟨b,8,Zn⟩=Zo (Zs (Zo ⟨g,o,Zn⟩) (z+2) cap):=e4;have d5:w.drew.cell? ⟨g,o,Zn⟩=Zo (Zp (Zo ⟨v,0,Zn⟩)):=e5;have d6:w.drew.cell? ⟨nb,no+1,Zn⟩=Zo (Zt j):=e6;have d7:w.drew.cell? ⟨g,o+1,Zn⟩=Zo (Zp (Zo ⟨y,0,Zn⟩)):=e7;have l0:=d8 e0;have l1:=d8 e1;have l2:=d8 e2;have l3:=d8 e3;have l4:=d8 e4;have l5:=d8 e5;have l6:=d8 e6;have l7:=d8 e7;have p:Hid (∀f:Zw,Below w.drew.heap.size w.drew f->f.cell? ⟨b,0,Zn⟩=Zo (Zi Zk 35)/\f.cell? ⟨b,6,Zn⟩=Zo (Zp B)/\f.cell? ⟨b,3,Zn⟩=Zo (Zs (Zo ⟨nb,no,Zn⟩) (A+2) N)/\f.cell? ⟨nb,no,Zn⟩=Zo (Zt s)/\f.cell? ⟨b,8,Zn⟩=Zo (Zs (Zo ⟨g,o,Zn⟩) (z+2) cap)/\f.cell? ⟨g,o,Zn⟩=Zo (Zp (Zo ⟨v,0,Zn⟩))/\f.cell? ⟨nb,no+1,Zn⟩=Zo (Zt j)/\f.cell? ⟨g,o+1,Zn⟩=Zo (Zp (Zo ⟨y,0,Zn⟩))):=fun f h=>⟨kC h Z l0,kC h d1 l1,kC h d2 l2,kC h d3 l3,kC h d4 l4,kC h d5 l5,kC h d6 l6,kC h d7 l7⟩;go_upto_region 9 with fail;refine wp_region_held_drew (S:=fun i=>i.cell? ⟨b,0,Zn⟩=Zo (Zi Zk 35)/\i.cell? ⟨b,6,Zn⟩=Zo (Zp B)/\i.cell? ⟨b,3,Zn⟩=Zo (Zs (Zo ⟨nb,no,Zn⟩) (A+2) N)/\i.cell? ⟨nb,no,Zn⟩=Zo (Zt s)/\i.cell? ⟨b,8,Zn⟩=Zo (Zs (Zo ⟨g,o,Zn⟩) (z+2) cap)/\i.cell? ⟨g,o,Zn⟩=Zo (Zp (Zo ⟨v,0,Zn⟩))/\i.cell? ⟨nb,no+1,Zn⟩=Zo (Zt j)/\i.cell? ⟨g,o+1,Zn⟩=Zo (Zp (Zo ⟨y,0,Zn⟩))) zK ⟨Z,d1,d2,d3,d4,d5,d6,d7⟩ (fun hHeld=>?_);have aa:w.drew.heap.size=w.heap.size:=rfl;generalize w.drew=V at *;refine tk 0 ?_;refine tk 1 ?_;refine tk 2 ?_;refine tk 3 ?_;refine tk 4 ?_;refine tk 5 ?_;refine tk 6 ?_;refine tk 7 ?_;refine tk 8 ?_;refine tk 9 ?_;refine tk 10 ?_;refine tk 11 ?_;refine tk 12 ?_;refine tk 14 ?_;refine tk 15 ?_;refine tk 16 ?_;refine tk 17 ?_;refine tk 18 ?_;refine tk 19 ?_;refine tk 20 ?_;refine tk 21 ?_;refine tk 22 ?_;refine i6 13 fun K hK=>?_;go_simp;go_at_call 168;refine Y.out.mono ?_;rintro e O ⟨sb,rfl,c,l⟩;have a:=d.trans (c.mono d.size);have D:Hid (Calls prog 168 #[Zp (Zo ⟨sb,0,Zn⟩),Zt j,Zp (Zo ⟨P,0,Zn⟩)] O _):=qp (Ov S w.heap.size Zn O) M (n+1) ((s,x) :: env) _ j (mQ k) P O (l.keep (fun _ _=>rfl) (zf d c)) (rE a C.out R.out) (Ov.lt C.out a.size) T;clear l Y;refine hK.out _ _ (p.out _ c) (fun hHeld=>?_);clear hK K;refine i6 23 fun K hK=>?_;go_simp;go_at_call 167;refine (X.out O c).mono ?_;rintro e w3 ⟨rfl,rfl⟩;clear X;refine hK.out _ _ (p.out _ c) (fun hHeld=>?_);clear hK K;refine i6 24 fun K hK=>?_;go_simp;go_at_call 168;refine D.out.mono ?_;rintro e w4 ⟨U,rfl,q,m⟩;have HF:Hid (lR S M ((j,mQ k) :: (s,x) :: env) w (Zr (Zp (Zo ⟨U,0,Zn⟩))) w4):=⟨a.trans (q.mono a.size),_,_,rfl,m.keep (fun _ _=>rfl) (zf a q)⟩;clear m D;refine hK.out _ _ (p.out _ (c.trans (q.mono c.size))) (fun hHeld=>?_);clear hK K;refine tk 25 ?_;refine wpAnyH_done zK ?_ _;go_simp;go_wp2;go_ret;exact HF.out
def mB(c p:Int):Zv:=.iface 153 (Za #[Zi Zk c,Zi Zk p])
theorem yZ{P:Program}{ps rs:Array TypeId}{b:Bool}(d:Nat)(a:Fn)(first cap:Array Zv)(w:Zw)(h:P.underlying t=Zo (.func ps rs b)):(Op.equalIn (d+1) t (.func a first cap) .nilFunc).run P w=.ok false w:=by simp[Op.equalIn,run_underlying h]
theorem Tryz.mfunc_eq(a:Fn)(first cap:Array Zv)(w:Zw):(binOp .eql 134 (.func a first cap) .nilFunc).run prog w=.ok (.bool false) w:=by have:(Op.equal 134 (.func a first cap) .nilFunc).run prog w=.ok false w:=yZ 9999 a first cap w underlying134;simp only[binOp];simp[this]
theorem qH(a p:Nat)(c:Int)(w:Zw)(d:w.cell? ⟨a,5,Zn⟩=Zo (Zi Zk (p:Int))):Calls prog 84 #[Zp (Zo ⟨a,0,Zn⟩),Zi Zk c] w fun e b=>e=Zr (mB c p)/\b=w:=by unfold mB;go_in;go_wp2;go_ret;exact⟨rfl,rfl⟩
theorem mN{b:Nat}(h:w.heap[b]?=Zo (Zc cs t (0,0)))(i:Nat)(v:Zv)(hi:cs[i]?=Zo v):w.cell? ⟨b,i,Zn⟩=Zo v:=by simp[World.cell?,h,hi]
theorem my.keep{t:T (m+1)}{c:Nat}{env:jE M}{o:K (M+1)}{l:List (K (M+1))}(h:my S w M m lb t c env o l)(e:jn S w w')(p:w'.heap[lb]?=w.heap[lb]?)(d:∀b,S b->S' b):my S' w' M m lb t c env o l:=by obtain⟨n,c0,c1,c2,c3,c4,s,k,r,i,a,j,g,f⟩:=h.box;exact⟨⟨n,c0,c1,c2,c3,c4,s,k,r,p.trans i,a.keep e d,j.keep e d,g.keep e d,f.keep e d fun _ _ _ q=>q.keep e d⟩⟩
def sH(S:ZP)(M:Nat)(r:K (M+1)×Int×Nat)(w:Zw)(e:Ending)(w':Zw):Prop:=
 Bw w w' /\ ((r.2.1=0/\∃b,e=Zr (Zu #[Zp (Zo ⟨b,0,Zn⟩),.nilIface])/\b9 (Ov S w.heap.size Zn w') w' (M+1) r.1 (Zp (Zo ⟨b,0,Zn⟩)))∨(r.2.1≠0/\e=Zr (Zu #[Zp Zn,mB r.2.1 r.2.2])))
theorem DJ (S:ZP) (M m k N o pl a:Nat) (hM:5<=M) (t:T (m+1)) (env:jE M) (sk:K (M+1)) (j:List (K (M+1))) (w:Zw) (R:Bd S w) (hc:BJ S w N pl) (hl:my S w M m o t a env sk j) (hk:Nd.sort t=(k:Int)) (h1:1<=k) (h2:k<=35) (B:wd (iT k) (Nd.names t) (Nd.text t) j) (J:EZ (iT k) (Nd.names t) env j) :
  Calls prog 86 #[Zp (Zo ⟨N,0,Zn⟩),Zp (Zo ⟨o,0,Zn⟩)] w (sH S M (kA (show Nd (T m) from t) env j a) w):=by
 have l:Bw w w.drew:=(Below.refl _ _).drew;obtain⟨cs,H,ah,Y,q⟩:=hc;obtain⟨wv,mv,ak,ab,ai,I⟩:=q k h1 om;obtain⟨d,hd⟩:∃d,iT k=Zo d:=by have:∀k,k<36->1<=k->(iT k).isSome=true:=zC;exact Option.isSome_iff_exists.1 (this k om h1)
 rw[hd]at I B J;have aa:kA (show Nd (T m) from t) env j a=if (lW (Zo d) (Nd.names t) (Nd.text t) env j).2≠0 then (zU,(lW (Zo d) (Nd.names t) (Nd.text t) env j).2,a) else if gF (M+2) (lW (Zo d) (Nd.names t) (Nd.text t) env j).1=true then (fO M (M+2) (lW (Zo d) (Nd.names t) (Nd.text t) env j).1,0,0) else (zU,7,a):=by have e:=Hc (M:=M) k h1 h2 (Nd.names t) (Nd.text t) env j;rw[hd,<- hk]at e;unfold kA;rw[if_neg (by show ¬36<=Nd.sort t;omega),show fV (Nd.sort t) (Nd.names t) (Nd.text t) env j=_ from e]
 obtain⟨n,c0,c1,c2,c3,c4,sv,an,kv,U,y,aj,ad,ac⟩:=hl.box;obtain⟨q0,q1,q2,q3,q4,q5,q6,q7,q8⟩:=h9 U;obtain⟨X,-⟩:=id y;have e0:w.cell? ⟨o,0,Zn⟩=Zo (Zi Zk (k:Int)):=by rw[q0,X,hk]
 have e1:w.cell? ⟨N,1+k*2+1,Zn⟩=Zo mv:=mN H _ _ ab;have Z:my S w.drew M m o t a env sk j:=hl.keep (a6 l R) rfl fun _ h=>h;obtain⟨f,cap,rfl,eg,u⟩:=DM hM Z R (I.keep (a6 l R) fun _ h=>h) B;have HC:Hid (∀args:Array Zv,args=#[Zp (Zo ⟨o,0,Zn⟩)]++cap->Calls prog f args w.drew _):=u;have z:Hid ((lW (Zo d) (Nd.names t) (Nd.text t) env j).2=0->nJ (M+2) (lW (Zo d) (Nd.names t) (Nd.text t) env j).1=true):=Ga hM B J;have l5:=d8 q5;have HB:=a7 R;generalize lW (Zo d) (Nd.names t) (Nd.text t) env j=r at *;obtain⟨ck,cc⟩:=r;generalize kA (show Nd (T m) from t) env j a=mr at *;have s:=a7 aa;have al:(k:Int)<44:=om;have am:=Tryz.mfunc_eq;clear aa u Z I ac ad aj y U ai q Y B J hl R hd;go_in;have d0:w.drew.cell? ⟨o,0,Zn⟩=Zo (Zi Zk (k:Int)):=e0;have d1:w.drew.cell? ⟨N,1+k*2+1,Zn⟩=Zo (.func (.func f) #[] cap):=e1;have l0:=d8 e0;have l1:=d8 e1;have ag:Hid (∀V':Zw,Below w.drew.heap.size w.drew V'->V'.cell? ⟨o,0,Zn⟩=Zo (Zi Zk (k:Int))/\V'.cell? ⟨N,1+k*2+1,Zn⟩=Zo (.func (.func f) #[] cap)):=fun V' h=>⟨kC h d0 l0,kC h d1 l1⟩;go_upto_region 1 with fail;refine wp_region_held_drew (S:=fun w'=>w'.cell? ⟨o,0,Zn⟩=Zo (Zi Zk (k:Int))/\w'.cell? ⟨N,1+k*2+1,Zn⟩=Zo (.func (.func f) #[] cap)) zK ⟨d0,d1⟩ (fun hHeld=>?_);have ae:w.drew.heap.size=w.heap.size:=rfl;generalize w.drew=V at *;refine tk 0 ?_;refine tk 1 ?_;refine tk 2 ?_;refine tk 3 ?_;refine tk 4 ?_;refine tk 5 ?_;refine tk 6 ?_;refine tk 7 ?_;refine tk 8 ?_;refine tk 9 ?_;refine tk 10 ?_;refine tk 11 ?_;refine wpAnyH_done zK ?_ _;go_simp;have d5:V.cell? ⟨o,5,Zn⟩=Zo (Zi Zk (a:Int)):=kC l q5 l5;have P:Hid (∀W,Bw V W->∀b,Ov S V.heap.size Zn W b->b<W.heap.size):=fun W hW=>Ov.lt (fun b hb=>by rw[ae];exact HB.out b hb) hW.size;have af:Hid (∀W,Bw V W->∀b,Ov S V.heap.size Zn W b->Ov S w.heap.size Zn W b):=fun W hW b hb=>by rw[<- ae];exact hb
 clear ag hHeld q0 q1 q2 q3 q4 q5 q6 q7 q8 d0 d1 e0 e1 H ah ak ab X HB;go_wp2_with fail;refine (HC.out _ (by first|rfl|simp)).mono ?_;rintro e w1 ⟨g,⟨v,b,rfl,A⟩|⟨v,rfl⟩⟩
 ·subst v;have c:=l.trans (g.mono l.size);have L:Hid (Calls prog 133 _ w1 _):=tp (M+2) _ ck _ w1 A (z.out rfl) (P.out w1 g);cases hok:gF (M+2) ck with
  | true=>
   have Q:=a7 (b9.okd hok hM A);rw[hok]at L;have C:Hid (mr=(fO M (M+2) ck,0,0)):=by show _=_;rw[s.out,if_neg zS,if_pos hok]
   clear A hok HC z s;go_wp2_with fail;refine L.out.mono ?_;rintro e O ⟨rfl,i⟩;have D:=g.trans (i.mono g.size);have F:Hid (sH S M mr w (Zr (Zu #[Zp (Zo ⟨b,0,Zn⟩),.nilIface])) O):=by
    show sH _ _ _ _ _ _;rw[C.out];exact⟨c.trans (i.mono c.size),.inl ⟨rfl,b,rfl,Q.out.keep (fun x E=>i.block x (P.out w1 g x E)) fun x E=>af.out O D x (by
     rcases E with E|E
     ·exact .inl E
     ·exact .inr ⟨E.1,by have:=i.size;have:=E.2.1;omega,zS⟩)⟩⟩
   clear L Q i D C;go_wp2_with fail;refine bodyPost_ret (by simp[results,results86,go_sem];rfl) rfl ?_;exact F.out
  | false=>
   rw[hok]at L;have C:Hid (mr=(zU,7,a)):=by show _=_;rw[s.out,if_neg zS,if_neg (by rw[hok];simp)]
   clear A hok HC z s;go_wp2_with fail;refine L.out.mono ?_;rintro e O ⟨rfl,i⟩;have G:Hid (Calls prog 84 _ O _):=qH o a 7 O ((g.trans (i.mono g.size)).cell (p:=⟨o,5,Zn⟩) (by show o<_;omega) |>.trans d5);have F:Hid (sH S M mr w (Zr (Zu #[Zp Zn,mB 7 a])) O):=by show sH _ _ _ _ _ _;rw[C.out];exact⟨c.trans (i.mono c.size),.inr ⟨by show (7:Int)≠0;decide,rfl⟩⟩
   clear L i C;unfold mB at G F;go_wp2_with fail;refine G.out.mono ?_;rintro e w3 ⟨rfl,rfl⟩;clear G;go_wp2_with fail;refine bodyPost_ret (by simp[results,results86,go_sem];rfl) rfl ?_;exact F.out
 ·have c:=l.trans (g.mono l.size);have C:Hid (mr=(zU,cc,a)):=by show _=_;rw[s.out,if_pos v]
  have G:Hid (Calls prog 84 _ w1 _):=qH o a cc w1 (g.cell (p:=⟨o,5,Zn⟩) (by show o<_;omega) |>.trans d5);have F:Hid (sH S M mr w (Zr (Zu #[Zp Zn,mB cc a])) w1):=by show sH _ _ _ _ _ _;rw[C.out];exact⟨c,.inr ⟨v,rfl⟩⟩
  have H:(cc==0)=false:=by simpa using v
  clear HC z s C;unfold mB at G F;go_wp2_with fail;refine G.out.mono ?_;rintro e w3 ⟨rfl,rfl⟩;clear G;go_wp2_with fail;refine bodyPost_ret (by simp[results,results86,go_sem];rfl) rfl ?_;exact F.out
def lh:Nat->Zv->Int->ZP
 | 0,v,c,p=>v=mB c p
 | d+1,v,c,p=>v=mB c p∨∃op a,v=.iface 151 (Za #[Zi Zk op,a])/\lh d a c p
theorem lh.iface:∀ {d:Nat} {v:Zv} {c:Int} {p:Nat},lh d v c p->∃t x,v=.iface t x:=by
 intro d;cases d with
 | zero=>intro v c p h;exact⟨_,_,h⟩
 | succ d=>
  intro v c p h;rcases h with h|⟨op,a,h,-⟩;·exact⟨_,_,h⟩
  ·exact⟨_,_,h⟩
def nE(F:ZP)(w:Zw)(cs:Array Zv):Prop:=cs.size=89/\∀k,1<=k->k<44->∃a mv,cs[1+k*2]?=Zo a/\cs[1+k*2+1]?=Zo mv/\kQ F w k a mv
theorem nE.keep(h:nE S w cs)(g:jn S w w')(f:∀b,S b->S' b):nE S' w' cs:=
 ⟨h.1,fun k d e=>by obtain⟨i,mv,a,b,c⟩:=h.2 k d e;exact⟨i,mv,a,b,c.keep g f⟩⟩
def lB(cs:Array Zv)(p:Nat):Obj:=Zc (cs.push (Zi Zk (p:Int))) 141 (0,0)
theorem nE.chk(h:nE F w cs)(f:w.heap[cb]?=Zo (lB cs p)):BJ F w cb p:=by
 refine⟨_,f,by simp[h.1],by rw[Array.getElem?_push,if_pos h.1.symm],fun k d e=>?_⟩;obtain⟨g,mv,a,b,c⟩:=h.2 k d e;have:=h.1;refine⟨g,mv,?_,?_,c⟩;·rw[Array.getElem?_push,if_neg om];exact a
 ·rw[Array.getElem?_push,if_neg om];exact b
theorem nQ(b:cs.size=89)(a:w.heap[cb]?=Zo (lB cs p)):w.cell? ⟨cb,89,Zn⟩=Zo (Zi Zk (p:Int))/\w.frozen? ⟨cb,89,Zn⟩=false:=by unfold lB at a;exact⟨mN a _ _ (by rw[Array.getElem?_push,if_pos b.symm]),by simp[World.frozen?,a]⟩
theorem Gu(cs:Array Zv)(a b:Zv):(cs.push a).setIfInBounds cs.size b=cs.push b:=by apply Array.ext';simp
theorem BP(b:cs.size=89)(a:w.heap[cb]?=Zo (lB cs p)):(w.setCell ⟨cb,89,Zn⟩ (Zi Zk (q:Int))).heap[cb]?=Zo (lB cs q):=by unfold lB at a ⊢;simp only[World.setCell,Array.getElem?_modify,a,if_pos,Option.map_some];rw[<- b,Gu];rfl
def mp(F:ZP)(M:Nat)(r:K (M+1)×Int×Nat)(cs:Array Zv)(a b:Nat)(w:Zw)(e:Ending)(w':Zw):Prop:=
 b8 a w w' /\ ((r.2.1=0/\∃v,e=Zr (Zu #[v,.nilIface])/\rd (Ov F w.heap.size Zn w') w' M r.1 v/\w'.heap[a]?=Zo (lB cs b))∨(r.2.1≠0/\∃v d,e=Zr (Zu #[Zp Zn,v])/\lh d v r.2.1 r.2.2))
structure qw(F:ZP)(M m:Nat)(w0:Zw)(cb:Nat)(cs:Array Zv)(t:T (m+1))(c0 c1 c2 c3 c4:Zv)(env:jE M)(n:Nat)(sv:Zv)(sk:K (M+1))(skv:Zv):Prop where
 fz:∀b,F b->b<w0.heap.size/\b≠cb
 cblt:cb<w0.heap.size
 rules:nE F w0 cs
 node:fT F w0 (m+1) t c0 c1 c2 c3 c4
 scope:gG F w0 M n env sv
 sink:rd F w0 M sk skv
structure ij(F:ZP)(M:Nat)(w0:Zw)(cb:Nat)(cs:Array Zv)(lb:Nat)(c0 c1 c2 c3 c4 sv skv:Zv)(pl p:Nat)(ks:List (K (M+1)))(kv:Zv)(xs:List Zv)(w:Zw):Prop where
 near:b8 cb w0 w
 chk:w.heap[cb]?=Zo (lB cs p)
 ge:w0.heap.size<=lb
 box:w.heap[lb]?=Zo (Zc #[c0,c1,c2,c3,c4,Zi Zk (pl:Int),sv,skv,kv] 144 (0,0))
 own:w.ownsRow (lb+1) 82 1 kv ks.length xs
 kids:∀i (h:i<ks.length) (hx:i<xs.length),rd (Ov F (lb+1) kv.ownBlock w) w M ks[i] xs[i]
theorem ij.lt{a:List (K (M+1))}(h:ij F M w0 cb cs lb c0 c1 c2 c3 c4 sv skv pl p a kv xs w):lb<w.heap.size:=(Array.getElem?_eq_some_iff.1 h.box).1
theorem Ov.less:∀b,Ov S X o w b->Ov S X Zn w b:=fun _ h=>h.imp id fun h=>⟨h.1,h.2.1,zS⟩
theorem Ov.none(a:Y<=X)(c:w.heap.size<=w'.heap.size):∀b,Ov S X o w b->Ov S Y Zn w' b:=fun _ h=>h.imp id fun h=>⟨om,om,zS⟩
theorem ij.look {t:T (m+1)} {env:jE M} {e:K (M+1)} {c:List (K (M+1))} (a:qw F M m w0 cb cs t c0 c1 c2 c3 c4 env n sv e skv) (h:ij F M w0 cb cs lb c0 c1 c2 c3 c4 sv skv pl p c kv xs w) (l:c.length<=1000) (f:Y<=lb+1) :
  my (Ov F Y Zn w) w M m lb t pl env e c:=by have b:=h.near.same a.fz;have j:=h.lt;refine⟨⟨n,c0,c1,c2,c3,c4,sv,skv,kv,h.box,a.node.keep b fun _ h=>.inl h,a.scope.keep b fun _ h=>.inl h,a.sink.keep b fun _ h=>.inl h,?_⟩⟩;refine nB h.own (by unfold maxLen;omega) (fun g d=>.inr ⟨by have:=(fU h.own g d).1;omega,(fU h.own g d).2,zS⟩) fun i hi k=>?_;exact (h.kids i hi k).keep (fun _ _=>rfl) (Ov.none f (Zl _))
theorem ij.chkIn{t:T (m+1)}{env:jE M}{c:K (M+1)}{b:List (K (M+1))}(a:qw F M m w0 cb cs t c0 c1 c2 c3 c4 env n sv c skv)(h:ij F M w0 cb cs lb c0 c1 c2 c3 c4 sv skv pl p b kv xs w):BJ (Ov F Y Zn w) w cb p:=
 (a.rules.keep (h.near.same a.fz) fun _ h=>.inl h).chk h.chk
theorem ij.on{d:List (K (M+1))}(h:ij F M w0 cb cs lb c0 c1 c2 c3 c4 sv skv pl p d kv xs w)(e:Bd F w0)(c:Bw w V):ij F M w0 cb cs lb c0 c1 c2 c3 c4 sv skv pl p d kv xs V:=by
 have l:=c.size;have k:=h.near.size;refine⟨h.near.trans (.of_below c),(c.block cb (Array.getElem?_eq_some_iff.1 h.chk).1).trans h.chk,h.ge,(c.block lb h.lt).trans h.box,gh h.own fun g f=>c.block g (fU h.own g f).2,fun i hi j=>(h.kids i hi j).keep (fun b a=>?_) fun b a=>?_⟩
 ·refine c.block b ?_;rcases a with a|a;·have:=e b a;omega
  ·exact a.2.1
 ·rcases a with a|a;·exact .inl a
  ·exact .inr ⟨a.1,by have:=a.2.1;omega,a.2.2⟩
theorem ij.kid{f:Nat}{e:List (K (M+1))}(h:ij F M w0 cb cs lb c0 c1 c2 c3 c4 sv skv pl p e kv xs w)(j:∀b,F b->b<w0.heap.size/\b≠cb)(m:cb<w0.heap.size)(c:b8 cb w V)(k:V.heap[cb]?=Zo (lB cs f)):ij F M w0 cb cs lb c0 c1 c2 c3 c4 sv skv pl f e kv xs V:=by
 have q:=c.size;have o:=h.near.size;have n:=h.ge;refine⟨h.near.trans c,k,h.ge,(c.block lb h.lt om).trans h.box,gh h.own fun g d=>c.block g (fU h.own g d).2 (by have:=(fU h.own g d).1;omega),fun i hi l=>(h.kids i hi l).keep (fun b a=>?_) fun b a=>?_⟩
 ·rcases a with a|a;·have:=j b a;exact c.block b om this.2
  ·exact c.block b a.2.1 om
 ·rcases a with a|a;·exact .inl a
  ·exact .inr ⟨a.1,by have:=a.2.1;omega,a.2.2⟩
theorem ij.next {f:List (K (M+1))} {j:Zw} {x:K (M+1)} {g cap:Nat} {one:Obj} (h:ij F M w0 cb cs lb c0 c1 c2 c3 c4 sv skv pl p f kv xs w) (P:∀ b,F b->b<w0.heap.size/\b≠cb) (W:cb<w0.heap.size) (S:rd (Ov F (lb+1) kv.ownBlock w) w M x v)
  (n:j.ownsRow (lb+1) 82 1 (Zs (Zo ⟨g,0,Zn⟩) (f.length+1) cap) (f.length+1) (xs++[v])) (a:(w.alloc one).grownBy j kv.ownBlock) (o:kv.ownBlock=Zo g∨g=w.heap.size+1) :
  ij F M w0 cb cs lb c0 c1 c2 c3 c4 sv skv pl p (f++[x]) (Zs (Zo ⟨g,0,Zn⟩) (f.length+1) cap) (xs++[v]) (j.setCell ⟨lb,8,Zn⟩ (Zs (Zo ⟨g,0,Zn⟩) (f.length+1) cap)):=by
 have C:=h.lt;have Q:=h.ge;have X:=h.near.size;have H:=a.size;simp at H;have l:∀b,kv.ownBlock=Zo b->lb+1<=b/\b<w.heap.size:=fU h.own;have G:xs.length=f.length:=by simpa using h.own.1
 have u:∀b,b<w.heap.size->kv.ownBlock≠Zo b->j.heap[b]?=w.heap[b]?:=fun b d m=>by rw[a.block b zE (fun e=>m e.symm),Below.heap_alloc _ _ _ d]
 have q:∀b,kv.ownBlock≠Zo b->b<w.heap.size->(Value.slice (Zo ⟨g,0,Zn⟩) (f.length+1) cap).ownBlock≠Zo b:=by
  intro b O V e;have e:g=b:=by simpa [Value.ownBlock] using e
  rcases o with J|J;·exact O (by rw[J,e])
  ·omega
 have z:∀b,b≠lb->(j.setCell ⟨lb,8,Zn⟩ (Zs (Zo ⟨g,0,Zn⟩) (f.length+1) cap)).heap[b]?=j.heap[b]?:=fun b d=>Below.heap_setCell _ _ _ _ d;have U:(j.setCell ⟨lb,8,Zn⟩ (Zs (Zo ⟨g,0,Zn⟩) (f.length+1) cap)).heap.size=j.heap.size:=zS;have E:kv.ownBlock≠Zo lb:=fun e=>by have:=l lb e;omega
 have R:lb+1<=g:=by rcases o with e|e;exact (l g e).1;omega
 have A:cb<w.heap.size:=om;have D:kv.ownBlock≠Zo cb:=fun e=>by have:=l cb e;omega
 refine⟨⟨?_,?_,?_,om,fun b d m=>?_⟩,?_,h.ge,?_,?_,fun i hi T=>?_⟩;·show j.os=_;rw[a.os];exact h.near.os
 ·show j.tape=_;rw[a.tape];exact h.near.tape
 ·show j.output=_;rw[a.output];exact h.near.output
 ·rw[z b om,u b om (fun e=>by have:=l b e;omega)];exact h.near.block b d m
 ·rw[z cb om,u cb A D];exact h.chk
 ·have:j.heap[lb]?=_:=(u lb C E).trans h.box;simp[World.setCell,Array.getElem?_modify,this]
 ·rw[List.length_append]
  exact gh n fun I B=>z I (by have:g=I:=(by simpa [Value.ownBlock] using B);omega)
 ·have k:∀ {y:K (M+1)} {c:Zv},rd (Ov F (lb+1) kv.ownBlock w) w M y c->rd (Ov F (lb+1) (Value.slice (Zo ⟨g,0,Zn⟩) (f.length+1) cap).ownBlock (j.setCell ⟨lb,8,Zn⟩ (Zs (Zo ⟨g,0,Zn⟩) (f.length+1) cap))) (j.setCell ⟨lb,8,Zn⟩ (Zs (Zo ⟨g,0,Zn⟩) (f.length+1) cap)) M y c:=fun {y} {c} hy=>hy.keep (fun b d=>by
    rcases d with d|d
    ·have:=P b d;rw[z b om,u b om (fun e=>by have:=l b e;omega)]
    ·rw[z b (by have:=d.1;omega),u b d.2.1 d.2.2]) fun b d=>by
    rcases d with d|d
    ·exact .inl d
    ·exact .inr ⟨d.1,by have:=d.2.1;omega,q b d.2.2 d.2.1⟩
  by_cases r:i<f.length
  ·have t:i<xs.length:=by omega
   rw[List.getElem_append_left t,List.getElem_append_left r];exact k (h.kids i r t)
  ·have s:i=f.length:=by simp at hi;omega
   subst s;have L:(xs++[v])[f.length]=v:=by simp[<- G]
   have N:(f++[x])[f.length]=x:=zS;rw[L,N];exact k S
def ES(F:ZP)(M:Nat)(w0:Zw)(a:Nat)(cs:Array Zv)(h:Nat)(c0 c1 c2 c3 c4 j b:Zv)(pl p i:Nat)(f:List (K (M+1)))(r:K (M+1)×Int×Nat)(c:Bool)(e:Ending)(w':Zw):Prop:=
 (r.2.1≠0/\b8 a w0 w' /\ ∃v d,e=Zr v/\lh d v r.2.1 r.2.2) ∨
 (r.2.1=0/\c=false/\b8 a w0 w' /\ e=Zr (mB 6 p)) ∨
 (r.2.1=0/\c=true/\e=Zr .nilIface/\∃g k,ij F M w0 a cs h c0 c1 c2 c3 c4 j b pl i (f++[r.1]) g k w')
theorem B2 (F:ZP) (M m k j A c pl p p':Nat) (w0 w:Zw) (cs:Array Zv) (t:T (m+1)) (c0 c1 c2 c3 c4:Zv) (env ah:jE M) (n:Nat) (sv:Zv) (sk:K (M+1)) (z:Zv) (y:List (K (M+1))) (kv:Zv) (xs:List Zv) (r:K (M+1) × Int × Nat)
  (hf:qw F M m w0 A cs t c0 c1 c2 c3 c4 env n sv sk z) (s:ij F M w0 A cs c c0 c1 c2 c3 c4 sv z pl p y kv xs w) (hk:Nd.sort t=(k:Int)) (h1:1<=k) (h2:k<44) (hj:j<(Nd.kids t).length) (aE:k≠24->j<(jr k).length) (bA:(Nd.kids t).length<=1000) (ar:y.length=j)
  (be:Calls prog 132 #[Zp (Zo ⟨c,0,Zn⟩),Zi Zk (j:Int)] w.drew (lR (Ov F (c+1) kv.ownBlock w.drew) M ah w.drew))
  (ai:∀(S:ZP)(V:Zw)(ab:Zv)(n':Nat)(d0 d1 d2 d3 d4:Zv),fT S V m (Nd.kids t)[j] d0 d1 d2 d3 d4->gG S V M n' ah ab->(∀b,S b->b<V.heap.size/\b≠A)->nE S V cs->V.heap[A]?=Zo (lB cs p)->A<V.heap.size->(∀b,F b->S b)->jn F w0 V ->
   Calls prog 41 #[Zp (Zo ⟨A,0,Zn⟩),Za #[d0,d1,d2,d3,d4],ab] V (mp S M r cs A p' V))
  (aj:r.2.1=0->j<(gT k).length->gF (M+1) r.1=true) (au:∀q,(gT k).getD j .any=.like q->q<y.length/\gF (M+1) (y.getD q zU)=true) (br:(gT k).getD j .any=.within->0<y.length/\gF (M+1) (y.getD 0 zU)=true/\Kd.sort (y.getD 0 zU)=6) (bn:(gT k).getD j .any=.sink->gF (M+1) sk=true) :
  Calls prog 85 #[Zp (Zo ⟨A,0,Zn⟩),Zp (Zo ⟨c,0,Zn⟩),Zi Zk (j:Int)] w (ES F M w0 A cs c c0 c1 c2 c3 c4 sv z pl p p' y r (b7 (k:Int) sk j r.1 y)):=by
 have bz:=hf.rules.1;obtain⟨cf,bU⟩:=nQ bz s.chk;have bX:=s.ge;have bQ:=s.lt;have ca:=s.near.size;have aV:=hf.cblt;obtain⟨q0,q1,q2,q3,q4,q5,q6,q7,q8⟩:=h9 s.box;obtain⟨bg,-,-,-,-,-,-,aI,-,-⟩:=id hf.node;obtain⟨ka,kc,aU,-,bj⟩:=id aI;obtain⟨kb,ko,rfl,bw,al⟩:=bj (by intro h;rw[h]at hj;simp at hj);obtain⟨z0,z1,z2,z3,z4,e0,e1,e2,e3,e4,aA⟩:=al j hj;obtain⟨y0,y1,y2,ya,yl,yc,za,zl,zc,rfl,rfl,rfl,rfl,rfl⟩:=aA.shape;have u:=hf.fz kb bw;have g0:=s.near.cell e0 u.2;have g1:=s.near.cell e1 u.2;have g2:=s.near.cell e2 u.2;have g3:=s.near.cell e3 u.2;have g4:=s.near.cell e4 u.2;obtain⟨ln,bD⟩:=ii ((Nd.kids t).length);rw[<- bD]at aU hj bA;rw[aU]at q4;have bY:(j:Int)<(ln:Int):=om;have bB:y.length<=j:=Nat.le_of_eq ar;have bC:j<=y.length:=Nat.le_of_eq ar.symm;obtain⟨va,vc,R⟩:=mV s.own;have aW:=fU s.own;have ay:Bw w w.drew:=(Below.refl _ _).drew;have G:Bd F w0:=fun b a=>(hf.fz b a).1;have aB:=a7 (s.on G ay);have Z:=a7 hf;have aY:Hid (Calls prog 132 #[Zp (Zo ⟨c,0,Zn⟩),Zi Zk (j:Int)] w.drew _):=be;have bT:=a7 aA;have ag:Hid (∀X:Zw,b8 A w X->X.cell? ⟨c,4,Zn⟩=Zo (Zs (Zo ⟨kb,ko,Zn⟩) ln kc)/\X.cell? ⟨kb,ko+j*5,Zn⟩=Zo (Zi Zk y0)/\X.cell? ⟨kb,ko+j*5+1,Zn⟩=Zo (Zi Zk y1)/\X.cell? ⟨kb,ko+j*5+2,Zn⟩=Zo (Zt y2)/\X.cell? ⟨kb,ko+j*5+3,Zn⟩=Zo (Zs ya yl yc)/\X.cell? ⟨kb,ko+j*5+4,Zn⟩=Zo (Zs za zl zc)):=fun X h=>⟨h.cell q4 om,h.cell g0 u.2,h.cell g1 u.2,h.cell g2 u.2,h.cell g3 u.2,h.cell g4 u.2⟩;have bb:Hid (∀(V1:Zw)(ab:Zv)(n':Nat),Bw w V1->gG (Ov F (c+1) kv.ownBlock V1) V1 M n' ah ab->Calls prog 41 #[Zp (Zo ⟨A,0,Zn⟩),Za #[Zi Zk y0,Zi Zk y1,Zt y2,Zs ya yl yc,Zs za zl zc],ab] V1 fun e H=>b8 A w H/\((r.2.1=0/\∃v,e=Zr (Zu #[Zp v,.nilIface])/\rd (Ov F (c+1) kv.ownBlock H) H M r.1 (Zp v)/\ij F M w0 A cs c c0 c1 c2 c3 c4 sv z pl p' y kv xs H)∨(r.2.1≠0/\∃tt xx d,e=Zr (Zu #[Zp Zn,.iface tt xx])/\lh d (.iface tt xx) r.2.1 r.2.2))):=fun V1 ab n' P U=>by
  have ax:=s.on G P;have cc:=P.size;have aa:=ax.near.same hf.fz;refine (ai (Ov F (c+1) kv.ownBlock V1) V1 ab n' _ _ _ _ _ (aA.keep aa fun _ h=>.inl h) U (fun b a=>?_) (hf.rules.keep aa fun _ h=>.inl h) ax.chk om (fun _ h=>.inl h) aa).mono ?_
  ·rcases a with a|a;·have:=hf.fz b a;exact⟨om,this.2⟩
   ·exact⟨a.2.1,by have:=a.1;omega⟩
  rintro e H ⟨az,⟨E,v,rfl,aq,bx⟩|⟨E,v,d,rfl,am⟩⟩
  ·have bG:b8 A w H:=(b8.of_below P).trans az;obtain⟨vp,rfl⟩:=aq.ptr;refine⟨bG,.inl ⟨E,vp,rfl,aq.keep (fun _ _=>rfl) fun b a=>?_,ax.kid hf.fz aV az bx⟩⟩;rcases a with (a|a)|a;·exact .inl a
   ·exact .inr ⟨a.1,by have:=az.size;have:=a.2.1;omega,a.2.2⟩
   ·exact .inr ⟨by have:=a.1;omega,a.2.1,fun e=>by have:=aW b e;have:=a.1;omega⟩
  ·obtain⟨tt,xx,rfl⟩:=am.iface;exact⟨(b8.of_below P).trans az,.inr ⟨E,tt,xx,d,rfl,am⟩⟩
 have bu:=a7 s.near;have bv:=a7 aW;have aS:=a7 aj;have aO:=a7 au;have aR:=a7 br;have aP:=a7 bn;have aK:=Iz (M:=M) k j h2 aE sk r.1 y;have ac:=a7 aK;generalize b7 (k:Int) sk j r.1 y=wb at *;have bI:=ag.out w.drew (b8.of_below ay);have bm:c0=Zi Zk (k:Int):=by rw[bg,hk]
 clear e0 e1 e2 e3 e4 g0 g1 g2 g3 g4 q0 q1 q2 q3 q5 q6 q7 q8 aA al bj aI ai be s hf aj au br bn aW aK aU aE bg hk ar;go_in;go_upto_region 2 with fail;refine wp_region_held_drew (S:=fun w'=>w'.cell? ⟨c,4,Zn⟩=Zo (Zs (Zo ⟨kb,ko,Zn⟩) ln kc)/\w'.cell? ⟨kb,ko+j*5,Zn⟩=Zo (Zi Zk y0)/\w'.cell? ⟨kb,ko+j*5+1,Zn⟩=Zo (Zi Zk y1)/\w'.cell? ⟨kb,ko+j*5+2,Zn⟩=Zo (Zt y2)/\w'.cell? ⟨kb,ko+j*5+3,Zn⟩=Zo (Zs ya yl yc)/\w'.cell? ⟨kb,ko+j*5+4,Zn⟩=Zo (Zs za zl zc)) zK bI (fun hHeld=>?_);have cd:w.drew.heap.size=w.heap.size:=rfl;generalize w.drew=V at *;refine tk 0 ?_;refine tk 1 ?_;refine tk 2 ?_;refine tk 3 ?_;refine tk 4 ?_;refine tk 5 ?_;refine tk 6 ?_;refine tk 7 ?_;refine tk 8 ?_;refine tk 9 ?_;refine tk 10 ?_;refine i6 11 fun K hK=>?_;go_simp;go_at_call 132;refine aY.out.mono ?_;rintro e V1 ⟨P,n1,bK,rfl,U⟩;have aC:=ay.trans (P.mono ay.size);obtain⟨s1,rfl⟩:∃s1,bK=Zp s1:=by rcases U.ptr with ⟨-,rfl⟩|⟨sb,rfl,-⟩<;>exact⟨_,rfl⟩
 refine hK.out _ _ (ag.out V1 (b8.of_below aC)) (fun hHeld=>?_);have ba:=Lib.hid (bb.out V1 (Zp s1) n1 aC (U.keep (fun _ _=>rfl) fun b a=>by
  rcases a with (a|a)|a
  ·exact .inl a
  ·exact .inr ⟨a.1,by have:=P.size;have:=a.2.1;omega,a.2.2⟩
  ·exact .inr ⟨by have:=a.1;omega,a.2.1,fun e=>by have:=bv.out b e;have:=a.1;omega⟩))
 clear hK K aY bb U P;refine i6 12 fun K hK=>?_;go_simp;go_at_call 41;refine ba.out.mono ?_;rintro e H ⟨ad,av⟩;obtain⟨rv,re,rfl⟩:∃rv re,e=Zr (Zu #[Zp rv,re]):=by rcases av with ⟨-,v,rfl,-⟩|⟨-,tt,xx,d,rfl,-⟩<;>exact⟨_,_,rfl⟩
 have af:=a7 av;refine hK.out _ _ (ag.out H ad) (fun hHeld=>?_);clear hK K ba av;refine tk 13 ?_;refine tk 14 ?_;refine tk 15 ?_;refine tk 16 ?_;refine tk 17 ?_;refine wpAnyH_done zK ?_ _;go_simp;have aG:=bu.out.trans ad;rcases af.out with ⟨E,v,l,aq,aJ⟩|⟨E,tt,xx,d,l,am⟩;case inr=>injection l with l;injection l with l;have l:=congrArg Array.toList l;simp only[List.cons.injEq,and_true]at l;obtain⟨-,rfl⟩:=l;have HP:Hid (ES F M w0 A cs c c0 c1 c2 c3 c4 sv z pl p p' y r wb (Zr (.iface tt xx)) H):=.inl ⟨E,aG,_,d,rfl,am⟩;clear af am ag aB Z hHeld;go_wp2;go_ret;exact HP.out
 injection l with l;injection l with l;have l:=congrArg Array.toList l;simp only[List.cons.injEq,Value.pointer.injEq,and_true]at l;obtain⟨rfl,rfl⟩:=l;have ce:=ad.size;have aT:Bw H H.drew:=(Below.refl _ _).drew;have Y:=aJ.on G aT;have aF:rd (Ov F (c+1) kv.ownBlock H.drew) H.drew M r.1 (Zp rv):=aq.keep (a6 aT fun b a=>by
  rcases a with a|a
  ·have:=G b a;omega
  ·exact a.2.1) fun _ h=>h
 clear af ag hHeld aq aJ;obtain⟨wv,mv,bt,bE,aX,bH⟩:=(Z.out.rules.keep (Y.near.same Z.out.fz) fun _ h=>h).2 k h1 h2;obtain⟨wa,wc,rfl,-,bq⟩:=id aX;obtain⟨p0,p1,p2,p3,p4,p5,p6,p7,p8⟩:=h9 Y.box;have a0:H.drew.cell? ⟨c,0,Zn⟩=Zo (Zi Zk (k:Int)):=by rw[p0,bm]
 have a1:H.drew.cell? ⟨A,1+k*2,Zn⟩=Zo (Zs wa (gT k).length wc):=mN Y.chk _ _ (by rw[Array.getElem?_push,if_neg om];exact bt);have bO:(k:Int)<44:=om;have L:=a7 Y;have ae:=a7 aF;have bc:=a7 aX;have aQ:=a7 bq;clear p0 p1 p2 p3 p4 p5 p6 p7 bE bH bt Y aF aX bq aB;go_upto_region 5 with fail;refine wp_region_held_drew (S:=fun w'=>w'.cell? ⟨c,0,Zn⟩=Zo (Zi Zk (k:Int))/\w'.cell? ⟨A,1+k*2,Zn⟩=Zo (Zs wa (gT k).length wc)) zK ⟨a0,a1⟩ (fun hHeld=>?_);have bR:H.heap.size<=H.drew.heap.size:=Zl _;generalize H.drew=W at *;refine tk 0 ?_;refine tk 1 ?_;refine tk 2 ?_;refine tk 3 ?_;refine tk 4 ?_;refine tk 5 ?_;refine tk 6 ?_;refine tk 7 ?_;refine tk 8 ?_;refine tk 9 ?_;refine tk 10 ?_;refine tk 11 ?_;refine wpAnyH_done zK ?_ _;go_simp;have bF:b8 A w0 W:=L.out.near;have bP:=L.out.lt;have bV:A<W.heap.size:=om;obtain⟨i0,bi,aL,aM,aN⟩:=info_parts Tryz.info_pk;have HI:Hid (_/\_/\_/\_):=⟨bi,aL,aM,aN⟩;clear bi aL aM aN a0 a1 hHeld ad aG aT;by_cases ap:j<(gT k).length;case neg=>
  have bp:wb=true:=by rw[ac.out,List.getD_eq_getElem?_getD,List.getElem?_eq_none om];rfl
  have bZ:¬(j:Int)<((gT k).length:Int):=om;clear aS aQ bc ac aO aR aP;generalize (gT k).length=wl at *;have D:Bw W W:=Below.refl _ _;have o:=L.out.on G D;have Q:rd (Ov F (c+1) kv.ownBlock W) W M r.1 (Zp rv):=ae.out.keep (a6 D fun b a=>by
   rcases a with a|a
   ·have:=G b a;omega
   ·exact a.2.1) fun b a=>by
   rcases a with a|a
   ·exact .inl a
   ·exact .inr ⟨a.1,by have:=D.size;have:=a.2.1;omega,a.2.2⟩
  have x8:=(h9 o.box).2.2.2.2.2.2.2.2;have bJ:=D.size;have N:=a7 o;have J:=a7 Q;have HO:Hid (W.ownsRow (c+1) 82 1 (Zs va y.length vc) y.length xs):=by have:=o.own;rw[R]at this;exact this
  rw[R]at x8;have I:=a7 o.box;clear o Q L ae;go_wp2_with (at_builtin;refine wpList_append_lies _ rfl (.tmp 66) (.tmp 68) 116 rfl (c+1) 82 i0 _ 1 8 underlying116 HI.out.1 HI.out.2.1 HI.out.2.2.1 HI.out.2.2.2 rfl zC (Zs va y.length vc) y.length xs rfl (HO.out.alloc _) ⟨W.heap.size,0,Zn⟩ 1 1 [Zp rv] rfl rfl (World.news_of_block (heap_alloc_new W _)) (by simp[Value.oneCell']) zC (by unfold maxLen;omega) om zE (W.heap.size+1) zS ?_;intro g cap w3 C i O bl;refine Hid.out ?_);refine Lib.hid ?_;have aw:=fU HO.out;have B:w3.heap[c]?=Zo (Zc #[c0,c1,c2,c3,c4,Zi Zk (pl:Int),sv,z,kv] 144 (0,0)):=((i.block c zE (fun e=>by have:=aw c e.symm;omega)).trans (Below.heap_alloc _ _ _ om)).trans I.out;have bL:=(h9 B).2.2.2.2.2.2.2.2;have bM:w3.frozen? ⟨c,8,Zn⟩=false:=by simp[World.frozen?,B]
  have HN:Hid (ij F M w0 A cs c c0 c1 c2 c3 c4 sv z pl p' (y++[r.1]) _ _ _):=N.out.next (x:=r.1) Z.out.fz aV J.out C (by rw[R];exact i) (by rw[R];exact O);have HP:Hid (ES F M w0 A cs c c0 c1 c2 c3 c4 sv z pl p p' y r wb (Zr .nilIface) (w3.setCell ⟨c,8,Zn⟩ (Zs (Zo ⟨g,0,Zn⟩) (y.length+1) cap))):=.inr (.inr ⟨E,bp,rfl,_,_,HN.out⟩);clear C i O B HN N J I HO;go_wp2;go_ret;exact HP.out
 obtain⟨ub,uo,rfl,bS,bo⟩:=aQ.out (by intro h;rw[h]at ap;simp at ap);obtain⟨f,bW,bh⟩:=bo j ap;have an:(gT k).getD j .any=(gT k)[j]:=gm ap;have aH:=aS.out E ap;have ao:=ae.out.ok aH;have bk:=L.out.look Z.out om (Zl (c+1));obtain⟨nb,rfl,-⟩:∃nb,rv=Zo ⟨nb,0,Zn⟩/\True:=by obtain⟨b,e,-⟩:=ao.ptr;injection e with e;exact⟨b,e,trivial⟩
 have bf:∀b,Ov F (c+1) Zn W b->b<W.heap.size:=Ov.lt (fun b a=>by have:=G b a;omega) om;have aD:=EB bk bf om (bh.keep (fun _ _=>rfl) fun _ h=>.inl h) (ao.keep (fun _ _=>rfl) Ov.less) aH (fun q e=>aO.out q (by rw[an];exact e)) (fun e=>aR.out (by rw[an];exact e)) (fun e=>aP.out (by rw[an];exact e));rw[<- an,<- ac.out]at aD;obtain⟨fn,bd,rfl,eg,ak⟩:=aD;have aZ:Hid (∀args:Array Zv,args=#[Zp (Zo ⟨c,0,Zn⟩),Zp (Zo ⟨nb,0,Zn⟩)]++bd->Calls prog fn args W _):=ak;have bN:(j:Int)<((gT k).length:Int):=om;clear ak bk ao bh bo an ac aQ bc aS aO aR aP;generalize (gT k).length=wl at *;go_wp2_with fail;refine (aZ.out _ (by first|rfl|simp)).mono ?_;rintro e X ⟨rfl,D⟩;clear aZ;cases wb with
 | false=>have HP:Hid (ES F M w0 A cs c c0 c1 c2 c3 c4 sv z pl p p' y r false (Zr (mB 6 p)) X):=.inr (.inl ⟨E,rfl,bF.trans (.of_below D),rfl⟩);unfold mB at HP;clear L ae Z;go_wp2;go_ret;exact HP.out
 | true=>
  have o:=L.out.on G D;have Q:rd (Ov F (c+1) kv.ownBlock X) X M r.1 (Zp (Zo ⟨nb,0,Zn⟩)):=ae.out.keep (a6 D fun b a=>by
   rcases a with a|a
   ·have:=G b a;omega
   ·exact a.2.1) fun b a=>by
   rcases a with a|a
   ·exact .inl a
   ·exact .inr ⟨a.1,by have:=D.size;have:=a.2.1;omega,a.2.2⟩
  have x8:=(h9 o.box).2.2.2.2.2.2.2.2;have bJ:=D.size;have N:=a7 o;have J:=a7 Q;have HO:Hid (X.ownsRow (c+1) 82 1 (Zs va y.length vc) y.length xs):=by have:=o.own;rw[R]at this;exact this
  rw[R]at x8;have I:=a7 o.box;clear o Q L ae;go_wp2_with (at_builtin;refine wpList_append_lies _ rfl (.tmp 66) (.tmp 68) 116 rfl (c+1) 82 i0 _ 1 8 underlying116 HI.out.1 HI.out.2.1 HI.out.2.2.1 HI.out.2.2.2 rfl zC (Zs va y.length vc) y.length xs rfl (HO.out.alloc _) ⟨X.heap.size,0,Zn⟩ 1 1 [Zp (Zo ⟨nb,0,Zn⟩)] rfl rfl (World.news_of_block (heap_alloc_new X _)) (by simp[Value.oneCell']) zC (by unfold maxLen;omega) om zE (X.heap.size+1) zS ?_;intro g cap w3 C i O bl;refine Hid.out ?_);refine Lib.hid ?_;have aw:=fU HO.out;have B:w3.heap[c]?=Zo (Zc #[c0,c1,c2,c3,c4,Zi Zk (pl:Int),sv,z,kv] 144 (0,0)):=((i.block c zE (fun e=>by have:=aw c e.symm;omega)).trans (Below.heap_alloc _ _ _ om)).trans I.out;have bL:=(h9 B).2.2.2.2.2.2.2.2;have bM:w3.frozen? ⟨c,8,Zn⟩=false:=by simp[World.frozen?,B]
  have HN:Hid (ij F M w0 A cs c c0 c1 c2 c3 c4 sv z pl p' (y++[r.1]) _ _ _):=N.out.next (x:=r.1) Z.out.fz aV J.out C (by rw[R];exact i) (by rw[R];exact O);have HP:Hid (ES F M w0 A cs c c0 c1 c2 c3 c4 sv z pl p p' y r true (Zr .nilIface) (w3.setCell ⟨c,8,Zn⟩ (Zs (Zo ⟨g,0,Zn⟩) (y.length+1) cap))):=.inr (.inr ⟨E,rfl,rfl,_,_,HN.out⟩);clear C i O B HN N J I HO;go_wp2;go_ret;exact HP.out
theorem ED:∀k,k<44->∀j,j<4->∀q,q<4->(gT k).getD j .any=.like q->q<j:=by decide
theorem BF:∀k,k<44->∀j,j<4->(match (gT k).getD j .any with|.like q=>decide (q<4)|_=>true)=true:=by decide
theorem vU:∀k,k<44->(gT k).length<4:=by decide
theorem Iy:∀k,k<44->∀j,j<4->(gT k).getD j .any=.within->k=31/\j=1:=by decide
theorem IA:∀k,k<36->∀j,j<4->(gT k).getD j .any≠.sink:=by decide
theorem qo(a:k<44)(b:4<=j):(gT k).getD j .any=.any:=by have:=vU k a;rw[List.getD_eq_getElem?_getD,List.getElem?_eq_none om];rfl
theorem BG(a:k<44)(h:(gT k).getD j .any=.like q):q<j:=by
 by_cases c:j<4;·have b:=BF k a j c;rw[h]at b;exact ED k a j c q (by simpa using b) h
 ·rw[qo a om]at h;cases h
theorem BH(a:k<44)(h:(gT k).getD j .any=.within):k=31/\j=1:=by
 by_cases b:j<4;·exact Iy k a j b h
 ·rw[qo a om]at h;cases h
theorem EH(b:k<36)(h:(gT k).getD j .any=.sink):False:=by
 by_cases a:j<4;·exact IA k b j a h
 ·rw[qo om om]at h;cases h
theorem xX{op:Int}{names:List ZN}{i:Nat}{b:List (K (M+1))}{env:jE M}(f:∀p,p∈env->gF (M+1) p.2=true)(j:∀x,x∈b->gF (M+1) x=true)(hi:b.length=i)(c:qt op names i b):∀p,p∈jU op names i b env->gF (M+1) p.2=true:=by
 have g:0<b.length->gF (M+1) (b.getD 0 zU)=true:=fun h=>by rw[gm h];exact j _ (Zg h)
 have m:1<b.length->gF (M+1) (b.getD 1 zU)=true:=fun h=>by rw[gm h];exact j _ (Zg h)
 have d:∀k:K (M+1),gF (M+1) k=true->Kd.sort k=4∨Kd.sort k=6->gF (M+1) (mQ k)=true:=fun k ok n=>by
  obtain⟨x,l⟩:=xq ok n;have e:mQ k=fO M M x:=by unfold mQ;rw[l]
  rw[e];exact rD (pD ok x (by rw[l];simp))
 intro p a;unfold jU at a;split at a
 ·next hc=>
  rcases List.mem_cons.1 a with rfl|a;·exact g om
  ·exact f p a
 ·split at a
  ·next hc=>
   rcases List.mem_cons.1 a with rfl|a
   ·refine d _ (g om) ?_;rcases hc.1 with h|h|h|h;·exact .inr (c.may h hc.2)
    ·exact .inl (c.lst (.inl h) hc.2)
    ·exact .inl (c.lst (.inr (.inl h)) hc.2)
    ·exact .inl (c.lst (.inr (.inr h)) hc.2)
   ·exact f p a
  ·split at a
   ·next hc=>
    rcases List.mem_cons.1 a with rfl|a;·exact d _ (g om) (.inl (c.fld hc.1 hc.2))
    ·rcases List.mem_cons.1 a with rfl|a;·exact m om
     ·exact f p a
   ·exact f p a
theorem ij.at {t:T (m+1)} {env:jE M} {sk:K (M+1)} {f:List (K (M+1))} (P:qw F M m w0 cb cs t c0 c1 c2 c3 c4 env n sv sk skv) (h:ij F M w0 cb cs lb c0 c1 c2 c3 c4 sv skv pl p f kv xs w) (i:Nat) (hi:f.length=i) (j:qt (Nd.sort t) (Nd.names t) i f) (s:(i:Int)=o7 (Nd.sort t)->∀ x,x∈f->gF (M+1) x=true) :
  Calls prog 132 #[Zp (Zo ⟨lb,0,Zn⟩),Zi Zk (i:Int)] w (lR (Ov F (lb+1) kv.ownBlock w) M (jU (Nd.sort t) (Nd.names t) i f env) w):=by
 have hs:=h.near.same P.fz;have ad:=h.lt;have ae:=h.near.size;have ac:=h.ge;have O:∀b,Ov F (lb+1) kv.ownBlock w b->b<w.heap.size:=Ov.lt (fun b j=>by have:=(P.fz b j).1;omega) om;have u:gG (Ov F (lb+1) kv.ownBlock w) w M n env sv:=P.scope.keep hs fun _ h=>.inl h;obtain⟨l,q1,q2,Z,q4,q5,Q,q7,q8⟩:=h9 h.box;obtain⟨V,-,-,-,-,-,X,-⟩:=id P.node;rw[V]at l;have I:fL (Ov F (lb+1) kv.ownBlock w) w (Nd.names t) c3:=X.keep hs fun _ h=>.inl h;have e:(i:Int)=o7 (Nd.sort t)->∀q,q<f.length->∃g cap o,kv=Zs (Zo ⟨g,0,Zn⟩) f.length cap/\w.cell? ⟨g,0+q,Zn⟩=Zo (Zp (Zo ⟨o,0,Zn⟩))/\b9 (Ov F (lb+1) kv.ownBlock w) w (M+1) (f.getD q zU) (Zp (Zo ⟨o,0,Zn⟩))/\gF (M+1) (f.getD q zU)=true:=fun r q v=>by
  have s:=s r;have af:xs.length=f.length:=by simpa using h.own.1
  have y:=(h.kids q v om).ok (s _ (Zg v));obtain⟨o,L,-⟩:=id y.ptr;rcases h.own.2 with ⟨-,h0⟩|⟨g,cap,ab,H,-⟩;·omega
  ·have G:=h.own.cells (g:=g) (by rw[H];rfl) q xs[q] zS;rw[Addr.add_lit,L]at G;rw[L]at y;rw[gm v];exact⟨g,cap,o,H,G,y,s _ (Zg v)⟩
 have a:∀q,q<(Nd.names t).length->∃k l cap,c3=Zs (Zo ⟨k,l,Zn⟩) (Nd.names t).length cap/\w.cell? ⟨k,l+q,Zn⟩=Zo (Zt ((Nd.names t).getD q ByteArray.empty))/\((Nd.names t).getD q ByteArray.empty).size<=maxLen:=fun q v=>by obtain⟨k,l,cap,hv,-,J⟩:=ki I O om;rw[gm v];exact⟨k,l,cap,hv,(J q v).1,(J q v).2⟩
 unfold jU;split
 ·next hc=>
  obtain⟨c,rfl⟩:=hc;obtain⟨k,N,d,A,D,E⟩:=a 0 (by have:=j.one om;omega);obtain⟨g,cap,o,f1,f2,f3,f4⟩:=e (by unfold o7;rw[if_pos om];rfl) 0 om;have z:=j.one om;exact zo _ M n env (Nd.sort t) lb sv k N ((Nd.names t).length-1) d g 0 (f.length-1) cap o _ _ w O u l Q (by rw[Nat.sub_add_cancel z,Z,A]) (by simpa using D) (by rw[Nat.sub_add_cancel om,q8,f1]) (by simpa using f2) E f3 c
 ·next hn1=>
  split
  ·next hc=>
   obtain⟨c,rfl⟩:=hc;have z:=j.one om;obtain⟨k,N,d,A,D,E⟩:=a 0 om;obtain⟨g,cap,o,f1,f2,f3,f4⟩:=e (by unfold o7;rw[if_pos om];rfl) 0 om;refine A8 _ M n env (Nd.sort t) lb sv k N ((Nd.names t).length-1) d g 0 (f.length-1) cap o _ _ w O u l Q (by rw[Nat.sub_add_cancel z,Z,A]) (by simpa using D) (by rw[Nat.sub_add_cancel om,q8,f1]) (by simpa using f2) E f3 f4 c ?_;rcases c with h|h|h|h;·exact .inr (j.may h rfl)
   ·exact .inl (j.lst (.inl h) rfl)
   ·exact .inl (j.lst (.inr (.inl h)) rfl)
   ·exact .inl (j.lst (.inr (.inr h)) rfl)
  ·next hn2=>
   split
   ·next hc=>
    obtain⟨c,rfl⟩:=hc;have W:=j.two c;obtain⟨k,N,d,A,D,E⟩:=a 0 om;obtain⟨p1,r1,Y,B,e5,e6⟩:=a 1 om;have r:((2:Nat):Int)=o7 (Nd.sort t):=by unfold o7;rw[if_neg om,if_pos om];rfl
    obtain⟨g,cap,o,f1,f2,f3,f4⟩:=e r 0 om;obtain⟨g',aa,yb,C,f6,f7,f8⟩:=e r 1 om;rw[A]at B;injection B with B _ _;injection B with B;injection B with R S;subst R;subst S;rw[f1]at C;injection C with C _ _;injection C with C;injection C with U;subst U;exact xz _ M n env (Nd.sort t) lb sv k N ((Nd.names t).length-2) d g 0 (f.length-2) cap o yb _ _ _ _ w O u c (by rw[l,c]) Q (by rw[Nat.sub_add_cancel W,Z,A]) (by simpa using D) (by rw[Nat.sub_add_cancel om,q8,f1]) (by simpa using f2) e5 f6 E e6 f3 f4 (j.fld c rfl) f7
   ·next hn3=>
    refine A9 _ M n env (Nd.sort t) i lb sv w u l Q ?_;unfold o7;split;·omega
    ·split;·omega
     ·omega
def rB:Option Md->Nat
 | some (.inl (_,p+2))=>p+1
 | some (.inr (p+7))=>p+1
 | some (.inr 1)=>1
 | some (.inr 2)=>2
 | some (.inr 3)=>1
 | some (.inr 5)=>1
 | _=>0
def Cq:Option Md->Bool
 | some (.inl (s,0))=>decide (s=1∨s=2∨s=3)
 | some (.inl (s,1))=>decide (s=4∨s=6)
 | some (.inl (s,_+2))=>decide (s=4∨s=6)
 | _=>true
theorem Gd:∀k,k<36->rB (iT k)<=(jr k).length:=by decide
theorem GG:∀k,k<44->Cq (iT k)=true:=by decide
theorem CM:∀k,k<44->iT k=Zo .bound->k=4:=by decide
theorem vx:∀k,k<44->iT k=Zo .field->k=21:=by decide
theorem xw:∀k,k<44->iT k=Zo .put->k=22:=by decide
theorem BT:∀k,k<44->iT k=Zo .cut->k=23:=by decide
theorem FK:∀k,k<44->iT k=Zo .form->k=24:=by decide
theorem BI:∀k,k<44->iT k=Zo .within->k=25:=by decide
theorem GA:∀k,k<44->(match iT k with|Zo (.inl (_,1))=>decide (k=5∨k=6)|_=>true)=true:=by decide
theorem H4{t:T (m+1)}{b:List (K (M+1))}(r:Nd.sort t=(k:Int))(q:k<=35)(n:pP t)(j:zY (Nd.sort t) (Nd.names t) (Nd.text t) b)(l:∀x,x∈b->gF (M+1) x=true)(f:b.length=(Nd.kids t).length)(e:b.length<=1000):wd (iT k) (Nd.names t) (Nd.text t) b:=by
 have u:rB (iT k)<=b.length:=by
  by_cases g:k=24;·subst g;exact Nat.zero_le _
  ·have:=n.cnt om;rw[f,this,r];exact Gd k om
 have c:∀ {d},iT k=d->rB d<=b.length:=fun h=>h ▸ u;refine⟨l,e,fun h=>?_,fun s h=>?_,fun s p h=>?_,fun p h=>?_,fun h=>?_,fun h=>?_,fun h=>?_⟩
 ·rcases h with h|h;·have:=CM k om h;obtain⟨a,i,o⟩:=n.free om;rw[i];exact⟨zS,o⟩
  ·obtain⟨a,i,o,-⟩:=n.fld (by
    rcases h with h|h|h
    ·have:=vx k om h;omega
    ·have:=xw k om h;omega
    ·have:=BT k om h;omega)
   rw[i];exact⟨zS,o⟩
 ·have:=GA k om;rw[h]at this;have:k=5∨k=6:=by simpa using this
  exact j.kind om
 ·have:=c h;simp only[rB]at this;omega
 ·have:=c h;simp only[rB]at this;omega
 ·refine⟨?_,j.form ?_⟩;·rcases h with h|h|h<;>(have:=c h;simp only[rB]at this;omega)
  ·rcases h with h|h|h;·have:=vx k om h;omega
   ·have:=xw k om h;omega
   ·have:=BT k om h;omega
 ·have:=c h;simp only[rB]at this;omega
 ·refine⟨by have:=c h;simp only[rB]at this;omega,j.lst ?_⟩;have:=BI k om h;omega
theorem Ip{t:T (m+1)}{env:jE M}{f:List (K (M+1))}(q:Nd.sort t=(k:Int))(j:k<=35)(e:pP t)(c:∀p,p∈env->gF (M+1) p.2=true)(d:f.length=(Nd.kids t).length):EZ (iT k) (Nd.names t) env f:=by
 have b:=GG k om;refine⟨fun s h=>?_,fun s h=>?_,fun s p h=>?_,c,fun h=>?_,fun h=>?_⟩;·rw[h]at b;simpa [Cq] using b
 ·rw[h]at b;simpa [Cq] using b
 ·rw[h]at b;simpa [Cq] using b
 ·obtain⟨a,l,-,n⟩:=e.fld (by have:=xw k om h;omega);rw[l];exact n
 ·obtain⟨o,g⟩:=e.frm (by have:=FK k om h;omega);refine⟨om,?_⟩;unfold gX iP;rw[ZC];intro i hi;have:=g i (List.mem_range.1 hi);unfold kJ at this;rw[Bool.and_eq_true]at this;exact this.1
def EX(M m:Nat):Prop:=∀(F:ZP)(t:T m)(c0 c1 c2 c3 c4:Zv)(env:jE M)(n:Nat)(e:Zv)(d:Int)(c a:Nat)(cs:Array Zv)(w:Zw),fT F w m t c0 c1 c2 c3 c4->gG F w M n env e->(∀b,F b->b<w.heap.size/\b≠a)->a<w.heap.size->nE F w cs->w.heap[a]?=Zo (lB cs c)->gp m t d=true->nj m t<=35->(∀p,p∈env->gF (M+1) p.2=true)->c+d9 m t<=1000 ->
 Calls prog 41 #[Zp (Zo ⟨a,0,Zn⟩),Za #[c0,c1,c2,c3,c4],e] w (mp F M (gR [] m t env c) cs a (c+d9 m t) w)
theorem s4{d:Nat}{c:Int}(op:Int)(h:lh d v c p):lh (d+1) (.iface 151 (Za #[Zi Zk op,v])) c p:=.inr ⟨op,v,rfl,h⟩
theorem oq(l:List (T m))(j pl:Nat)(h:j<l.length):fK l (j+1) pl=fK l j pl+d9 m l[j]:=by unfold fK;rw[fQ _ _ _ h];omega
theorem AZ(M m:Nat)(hM:5<=M)(hn:EX M m):EX M (m+1):=by
 intro F t c0 c1 c2 c3 c4 env n sv d a l cs w ht aB hB bu aA aN hg u an bc;have u:Nd.sort t<=35:=u;simp only[gp,Bool.and_eq_true,decide_eq_true_eq,ZC]at hg;obtain⟨⟨bN,hj⟩,aQ⟩:=hg;have aj:=Bz hj u;obtain⟨k,hk⟩:∃k:Nat,Nd.sort t=(k:Int):=⟨(Nd.sort t).toNat,by have:=aj.lo;omega⟩;have aW:1<=k:=by have:=aj.lo;omega
 have ad:k<=35:=om;have E:=ht;obtain⟨aL,rfl,rfl,hs,ca,cc,h3,h4,⟨na,nl,nc,rfl,bW⟩,⟨ka,kl,kc,rfl,bX⟩⟩:=ht;rw[hk]at aL;subst aL;obtain⟨_,_,bB,-⟩:=id h3;cases bB
 obtain⟨_,_,bC,-⟩:=id h4;cases bC
 obtain⟨so,rfl⟩:∃so,sv=Zp so:=by rcases aB.ptr with ⟨-,rfl⟩|⟨sb,rfl,-⟩<;>exact⟨_,rfl⟩
 have Z:d9 (m+1) t=1+b4 (fun x=>d9 m x) (Nd.kids t):=rfl;have aP:=mR (Nd.kids t);have af:fK (Nd.kids t) (Nd.kids t).length a=a+d9 (m+1) t:=by unfold fK;rw[List.take_length,Z];omega
 have aX:(Nd.kids t).length<=1000:=om;obtain⟨c,Q⟩:∃W,W=w.alloc (Zc #[Zi Zk (k:Int),Zi Zk (Nd.num t),Zt (Nd.text t),Zs na (Nd.names t).length nc,Zs ka (Nd.kids t).length kc] 40):=⟨_,rfl⟩;have au:Bw w c:=by rw[Q];exact gx _ _
 have be:c.heap.size=w.heap.size+1:=by rw[Q];simp
 have aE:c.heap[w.heap.size]?=Zo (Zc #[Zi Zk (k:Int),Zi Zk (Nd.num t),Zt (Nd.text t),Zs na (Nd.names t).length nc,Zs ka (Nd.kids t).length kc] 40 (0,0)):=by rw[Q];exact heap_alloc_new _ _
 have bw:Bd F w:=fun b hb=>(hB b hb).1;have ai:=a6 au bw;have hf:qw F M m c l cs t (Zi Zk (k:Int)) (Zi Zk (Nd.num t)) (Zt (Nd.text t)) (Zs na (Nd.names t).length nc) (Zs ka (Nd.kids t).length kc) env n (Zp so) zU (Zp Zn):=
  ⟨fun b hb=>⟨by have:=(hB b hb).1;omega,(hB b hb).2⟩,om,aA.keep ai fun _ h=>h,E.keep ai fun _ h=>h,aB.keep ai fun _ h=>h,.inr ⟨rfl,rfl⟩⟩
 have R:c.heap[l]?=Zo (lB cs a):=(au.block l bu).trans aN;obtain⟨W2,L⟩:∃W,W=(c.alloc (Zc #[Zi Zk (k:Int),Zi Zk (Nd.num t),Zt (Nd.text t),Zs na (Nd.names t).length nc,Zs ka (Nd.kids t).length kc,Zi Zk (a:Int),Zp so,Zp Zn,Zs Zn 0 0] 144)).drew:=⟨_,rfl⟩;have y:Bw c W2:=by rw[L];exact (gx _ _).drew
 have bF:c.heap.size+1<=W2.heap.size:=by rw[L];show _<=(c.alloc _).heap.size;simp
 have bd:W2.heap[c.heap.size]?=Zo (Zc #[Zi Zk (k:Int),Zi Zk (Nd.num t),Zt (Nd.text t),Zs na (Nd.names t).length nc,Zs ka (Nd.kids t).length kc,Zi Zk (a:Int),Zp so,Zp Zn,Zs Zn 0 0] 144 (0,0)):=by rw[L];exact heap_alloc_new c _
 have ax:=aA.1;have U:W2.heap[l]?=Zo (lB cs a):=(y.block l om).trans R;have aI:((a+1:Nat):Int)=(a:Int)+1:=om;have aq:∀p0,p0=a+1->ij F M c l cs c.heap.size (Zi Zk (k:Int)) (Zi Zk (Nd.num t)) (Zt (Nd.text t)) (Zs na (Nd.names t).length nc) (Zs ka (Nd.kids t).length kc) (Zp so) (Zp Zn) a p0 [] (Zs Zn 0 0) [] (W2.setCell ⟨l,89,Zn⟩ (Zi Zk ((a:Int)+1))):=by rintro _ rfl;rw[<- aI];exact⟨(b8.of_below y).trans (b8.set l 89 _ _),BP ax U,Zl _,(Below.heap_setCell _ _ _ _ (by show c.heap.size≠l;omega)).trans bd,World.ownsRow_nil _ _ _ _,fun i h=>absurd h (Nat.not_lt_zero _)⟩
 obtain⟨bI,br⟩:=nQ ax U;obtain⟨bf,-⟩:=nQ ax R;have I:=a7 hf;have J:=a7 aj;have bh:=a7 aQ;have ak:=a7 an;have s:Hid (∀V,b8 l c V->b8 l w V/\V.cell? ⟨w.heap.size,0,Zn⟩=Zo (Zi Zk (k:Int))):=fun V hV=>⟨(b8.of_below au).trans hV,hV.cell (fZ aE).1 om⟩;have aH:=a7 (aq (fK (Nd.kids t) 0 a) (by unfold fK;simp[b4]));obtain⟨g0,g1,g2,g3,g4⟩:=fZ aE;have A:w.heap.size<c.heap.size:=om;have aM:l<c.heap.size:=om;have ag:∀V,Bw c V->V.cell? ⟨w.heap.size,0,Zn⟩=Zo (Zi Zk (k:Int))/\V.cell? ⟨w.heap.size,1,Zn⟩=Zo (Zi Zk (Nd.num t))/\V.cell? ⟨w.heap.size,2,Zn⟩=Zo (Zt (Nd.text t))/\V.cell? ⟨w.heap.size,3,Zn⟩=Zo (Zs na (Nd.names t).length nc)/\V.cell? ⟨w.heap.size,4,Zn⟩=Zo (Zs ka (Nd.kids t).length kc)/\V.cell? ⟨l,89,Zn⟩=Zo (Zi Zk (a:Int)):=fun V h=>⟨kC h g0 A,kC h g1 A,kC h g2 A,kC h g3 A,kC h g4 A,kC h bf aM⟩;have bq:=a7 ag;have aK:=ag W2 y;have al:=a7 (ag c.drew (Below.refl _ _).drew);have ba:¬(k:Int)=38:=om;have bb:¬(k:Int)=39:=om;have bL:((k:Int)==38)=false:=by simpa using ba
 have bM:((k:Int)==39)=false:=by simpa using bb
 have bO:¬k=38:=om;have bP:¬k=39:=om;have bU:=a7 E;have bo:=a7 af;have bp:=a7 bc;have bg:=a7 Z;have bS:(a:Int)+1<2000:=om;have bR:(0:Int)<=(a:Int):=om;have bT:w.heap.size+1<=c.heap.size:=Nat.le_of_eq be.symm;clear be;clear E aB aA aN aj aQ an hj hf aq R U aE bd y g0 g1 g2 g3 g4 ag h3 h4 ai Z af bc aP aI;go_in;go_upto_region 1 with fail;rw[<- Q];refine wp_region_held_drew (S:=fun w'=>w'.cell? ⟨w.heap.size,0,Zn⟩=Zo (Zi Zk (k:Int))/\w'.cell? ⟨w.heap.size,1,Zn⟩=Zo (Zi Zk (Nd.num t))/\w'.cell? ⟨w.heap.size,2,Zn⟩=Zo (Zt (Nd.text t))/\w'.cell? ⟨w.heap.size,3,Zn⟩=Zo (Zs na (Nd.names t).length nc)/\w'.cell? ⟨w.heap.size,4,Zn⟩=Zo (Zs ka (Nd.kids t).length kc)/\w'.cell? ⟨l,89,Zn⟩=Zo (Zi Zk (a:Int))) zK al.out (fun hHeld=>?_);clear Q;have bG:c.heap.size<=c.drew.heap.size:=Zl _;refine tk 0 ?_;refine tk 1 ?_;refine tk 2 ?_;refine tk 3 ?_;refine tk 4 ?_;refine tk 5 ?_;refine tk 6 ?_;refine i6 7 fun K hK=>?_;go_simp;refine hK.out _ _ (by rw[<- L];exact aK) (fun hHeld=>?_);clear hK K;rw[<- L];clear L;refine tk 8 ?_;refine wpAnyH_done zK ?_ _;go_simp;obtain⟨r0,r1,r2,r3,r4,r5⟩:=aK;clear hHeld;go_wp2_with fail;clear r0 r1 r2 r3 r4 r5 bI br bq al bf bG bF;go_loopw [54] (fun iv wr=>∃(j:Nat)(B:List (K (M+1)))(kv:Zv)(xs:List Zv),iv=Zi Zk j/\j<=(Nd.kids t).length/\qv [] m t env a j B/\(∀x,x∈B->gF (M+1) x=true)/\ij F M c l cs c.heap.size (Zi Zk (k:Int)) (Zi Zk (Nd.num t)) (Zt (Nd.text t)) (Zs na (Nd.names t).length nc) (Zs ka (Nd.kids t).length kc) (Zp so) (Zp Zn) a (fK (Nd.kids t) j a) B kv xs wr) (fun iv _=>(Nd.kids t).length-(intOf iv).toNat);case atStart=>exact⟨0,[],_,_,rfl,Nat.zero_le _,qv.start _ _ _ _ _,fun x h=>(by cases h),aH.out⟩
 case round=>
  obtain⟨j,B,kv,xs,rfl,bZ,aD,ap,aY⟩:=hrel;have ae:=aD.len;have D:=a7 aD;have p:=a7 ap;have P:=a7 aY;clear aD ap aY;by_cases f:j<(Nd.kids t).length
  ·have z:=xu (J.out.kid j f);have aZ:1<=m:=by
    have h1:=z.1;cases m with
    | zero=>exact absurd h1 (by show ¬(1:Int)<=0;omega)
    | succ m=>omega
   obtain⟨r,hr⟩:=ii (mC [] m t env a j B (Nd.kids t)[j]);have HR:=a7 hr;have av:=J.out.bindOk u D.out;have aa:=xX ak.out p.out ae av;have ac:=bh.out _ (Zg f);have bA:fK (Nd.kids t) j a+d9 m (Nd.kids t)[j]<=1000:=by have h1:=lO (Nd.kids t) (j+1);rw[fQ _ _ _ f]at h1;have:=bp.out;have:=bg.out;unfold fK;omega
   have aJ:=B2 F M m k j l c.heap.size a (fK (Nd.kids t) j a) (fK (Nd.kids t) (j+1) a) c wr cs t _ _ _ _ _ env (jU (Nd.sort t) (Nd.names t) j B env) n _ zU _ B kv xs r I.out P.out hk aW om f (fun bV=>by have:=J.out.cnt om;rw[hk,Int.toNat_natCast]at this;omega) aX ae
    ((P.out.on (fun b hb=>(I.out.fz b hb).1) ((Below.refl _ _).drew)).at I.out j ae av fun _=>p.out)
    (fun S V bJ n' d0 d1 d2 d3 d4 g1 g2 g3 g4 g5 g6 _ _=>by
     have:=hn S (Nd.kids t)[j] d0 d1 d2 d3 d4 _ n' bJ (d+1) (fK (Nd.kids t) j a) l cs V g1 g2 g3 g6 g4 g5 ac z.2 aa bA
     rw[<- oq _ _ _ f]at this
     rw[hr]
     exact this)
    (fun g _=>by rw[hr]at g ⊢;exact pu (M:=M) hM (sn:=[]) z.2 g aZ)
    (fun q h=>by
     have:=BG om h
     exact⟨om,by rw[gm om];exact p.out _ (Zg _)⟩)
    (fun h=>by
     obtain⟨bt,bY⟩:=BH om h
     have hw:=oZ D.out 0 om
     rw[hk,bt]at hw
     exact⟨om,by rw[gm om];exact p.out _ (Zg _),by simpa [b7] using hw⟩)
    (fun h=>(EH om h).elim)
   have aC:(iy ([]:mq M) (show Nd (T m) from t)).getD zU=zU:=by unfold iy;split<;>rfl
   have H:=a7 aJ;have bv:(j:Int)<((Nd.kids t).length:Int):=om;have aU:¬r.2.1=0->gR [] (m+1) t env a=(zU,r.2):=fun g=>by
    have h1:io [] m t env a=([],r.2):=by have:=D.out.bad f (by rw[<- HR.out];exact g);rw[<- HR.out]at this;exact this
    rw[lp u,h1];exact if_pos g
   have aV:r.2.1=0->b7 (k:Int) zU j r.1 B=false->gR [] (m+1) t env a=(zU,6,fK (Nd.kids t) j a):=fun g hw=>by have h1:io [] m t env a=([],6,fK (Nd.kids t) j a):=D.out.wrong f (by rw[<- HR.out];exact g) (by rw[aC,hk,<- HR.out];exact hw);rw[lp u,h1];exact if_pos (show (6:Int)≠0 by decide)
   have aS:r.2.1=0->b7 (k:Int) zU j r.1 B=true->qv [] m t env a (j+1) (B++[r.1]):=fun g hw=>by have:=D.out.next f (by rw[<- HR.out];exact g) (by rw[aC,hk,<- HR.out];exact hw);rw[<- HR.out]at this;exact this
   have aT:r.2.1=0->gF (M+1) r.1=true:=fun g=>by rw[hr]at g ⊢;exact pu (M:=M) hM (sn:=[]) z.2 g aZ
   have bk:=a7 aU;have bl:=a7 aV;have bi:=a7 aS;have bj:=a7 aT;clear aU aV aS aT aJ aC hr av aa ac;generalize b7 (k:Int) zU j r.1 B=wb at *;go_wp2_with fail;refine H.out.mono ?_;rintro e G (⟨g,o,v,dd,rfl,ab⟩|⟨g,bD,o,rfl⟩|⟨g,bE,rfl,bH,bK,ao⟩)
   ·obtain⟨tt,xx,rfl⟩:=ab.iface;have aw:=bk.out g;have X:=g;clear H;have HP:Hid (mp F M (gR [] (m+1) t env a) cs l (a+d9 (m+1) t) w (Zr (Zu #[Zp Zn,.iface 151 (Za #[Zi Zk (k:Int),.iface tt xx])])) G.drew):=by show mp _ _ _ _ _ _ _ _ _;rw[aw];exact⟨(s.out G o).1.drew,.inr ⟨X,_,_,rfl,s4 (k:Int) ab⟩⟩
    have z0:G.drew.cell? ⟨w.heap.size,0,Zn⟩=Zo (Zi Zk (k:Int)):=(s.out G o).2;go_upto_region 12 with fail;refine wp_region_held_drew (S:=fun w'=>w'.cell? ⟨w.heap.size,0,Zn⟩=Zo (Zi Zk (k:Int))) zK z0 (fun hHeld=>?_);generalize G.drew=Y at *;refine tk 0 ?_;refine tk 1 ?_;refine tk 2 ?_;refine tk 3 ?_;refine tk 4 ?_;refine tk 5 ?_;refine tk 6 ?_;refine wpAnyH_done zK ?_ _;go_simp;go_wp2_with fail;refine bodyPost_ret (by simp[results,results41,go_sem];rfl) rfl ?_;exact HP.out
   ·have ab:lh 0 (mB 6 (fK (Nd.kids t) j a:Nat)) 6 (fK (Nd.kids t) j a):=rfl;have aw:=bl.out g bD;have X:((6:Int))≠0:=zC;obtain⟨tt,xx,O⟩:∃tt xx,mB 6 (fK (Nd.kids t) j a:Nat)=.iface tt xx:=⟨_,_,rfl⟩;rw[O]at ab;rw[O];clear O H;have HP:Hid (mp F M (gR [] (m+1) t env a) cs l (a+d9 (m+1) t) w (Zr (Zu #[Zp Zn,.iface 151 (Za #[Zi Zk (k:Int),.iface tt xx])])) G.drew):=by show mp _ _ _ _ _ _ _ _ _;rw[aw];exact⟨(s.out G o).1.drew,.inr ⟨X,_,_,rfl,s4 (k:Int) ab⟩⟩
    have z0:G.drew.cell? ⟨w.heap.size,0,Zn⟩=Zo (Zi Zk (k:Int)):=(s.out G o).2;go_upto_region 12 with fail;refine wp_region_held_drew (S:=fun w'=>w'.cell? ⟨w.heap.size,0,Zn⟩=Zo (Zi Zk (k:Int))) zK z0 (fun hHeld=>?_);generalize G.drew=Y at *;refine tk 0 ?_;refine tk 1 ?_;refine tk 2 ?_;refine tk 3 ?_;refine tk 4 ?_;refine tk 5 ?_;refine tk 6 ?_;refine wpAnyH_done zK ?_ _;go_simp;go_wp2_with fail;refine bodyPost_ret (by simp[results,results41,go_sem];rfl) rfl ?_;exact HP.out
   ·have bn:=a7 (bi.out g bE);have HO:=a7 (bj.out g);have aG:=a7 ao;clear ao P H;go_wp2;go_roundw;case rel=>
     refine⟨j+1,B++[r.1],bH,bK,by go_num,om,bn.out,fun x C=>?_,aG.out⟩;rcases List.mem_append.1 C with C|C;·exact p.out x C
     ·rw[List.mem_singleton]at C;subst C;exact HO.out
    case measure=>simp[intOf];omega
  ·have ay:j=(Nd.kids t).length:=by omega
   have N:=P.out;have az:=N.near;have bQ:=N.lt;have bx:=az.size;have ah:gR [] (m+1) t env a=kA (show Nd (T m) from t) env B a:=by rw[lp u,D.out.done ay];exact if_neg zS
   have aO:=J.out.comeOk u aX D.out ay;have ar:=Lib.hid (DJ (Ov F c.heap.size Zn wr) M m k l c.heap.size _ a hM t env zU B wr (Ov.lt (fun b hb=>(I.out.fz b hb).1) bx) (N.chkIn I.out) (N.look I.out om (Nat.le_succ _)) hk aW ad (H4 hk ad J.out aO p.out om om) (Ip hk ad J.out ak.out om));have am:=N.chk;have bm:Hid ((kA (show Nd (T m) from t) env B a).2.1=0->gF (M+1) (kA (show Nd (T m) from t) env B a).1=true):=fun h=>by have:=pu (M:=M) hM (sn:=[]) (t:=t) (env:=env) (pl:=a) (m:=m+1) u (by rw[ah];exact h) om;rw[ah]at this;exact this
   have bv:¬(j:Int)<((Nd.kids t).length:Int):=om;generalize kA (show Nd (T m) from t) env B a=mr at *;have aF:=a7 ah;clear aO ah N P;have bz:fK (Nd.kids t) j a=a+d9 (m+1) t:=by rw[ay];exact bo.out
   rw[bz]at am;go_wp2_with fail;refine ar.out.mono ?_;rintro e G ⟨y,⟨g,b,rfl,aR⟩|⟨g,rfl⟩⟩
   ·have HP:Hid (mp F M mr cs l (a+d9 (m+1) t) w (Zr (Zu #[Zp (Zo ⟨b,0,Zn⟩),.nilIface])) G):=
     ⟨(s.out G (az.trans (.of_below y))).1,.inl ⟨g,_,rfl,.inl ⟨bm.out g,aR.keep (fun _ _=>rfl) fun x C=>by
      have:=y.size
      rcases C with (C|C)|C
      ·exact .inl C
      ·exact .inr ⟨by have:=C.1;omega,by have:=C.2.1;omega,zS⟩
      ·exact .inr ⟨by have:=C.1;omega,C.2.1,zS⟩⟩,(y.block l om).trans am⟩⟩
    clear ar aR;go_wp2_with fail;refine bodyPost_ret (by simp[results,results41,go_sem];rfl) rfl ?_;rw[aF.out];exact HP.out
   ·have HP:Hid (mp F M mr cs l (a+d9 (m+1) t) w (Zr (Zu #[Zp Zn,mB mr.2.1 mr.2.2])) G):=
     ⟨(s.out G (az.trans (.of_below y))).1,.inr ⟨g,_,0,rfl,rfl⟩⟩
    obtain⟨tt,xx,O⟩:∃tt xx,mB mr.2.1 (mr.2.2:Nat)=.iface tt xx:=⟨_,_,rfl⟩;rw[O]at HP ⊢;clear ar O;go_wp2_with fail;refine bodyPost_ret (by simp[results,results41,go_sem];rfl) rfl ?_;rw[aF.out];exact HP.out
theorem DQ(M:Nat)(a:5<=M):∀m,EX M m:=by
 intro m;induction m with
 | zero=>intro F t c0 c1 c2 c3 c4 env n g d f e cs w b;exact b.elim
 | succ m c=>exact AZ M m a c
end Go.Proofs.YtcfojmaccikgeaaGreatDoor
namespace Go.Proofs.YtcfojmaccikgeaaGreatDoor
open Go.RowKit Go.WideMaps Go.Maps
variable {α:Type}
theorem CI{p:α->Bool}{l:List α}(i:Nat)(h:i<l.length):(l.take (i+1)).all p=((l.take i).all p && p l[i]):=by rw[List.take_succ_eq_append_getElem h,List.all_append];simp
theorem G0{p:α->Bool}{l:List α}(i:Nat)(h:i<l.length)(b:p l[i]=false):l.all p=false:=by rw[Bool.eq_false_iff];intro a;have:=ZC.1 a _ (Zg h);rw[b]at this;cases this
end Go.Proofs.YtcfojmaccikgeaaGreatDoor
namespace Go.Proofs.YtcfojmaccikgeaaGreatDoor
open Go.RowKit Go.Proofs.Tryz
set_option maxRecDepth 100000
set_option maxHeartbeats 16000000
variable {k j:Nat}
theorem H5(w:Zw):(binOp .eql 134 .nilFunc .nilFunc).run prog w=.ok (.bool true) w:=by kernel_rfl
theorem F9 (S:ZP) (k g h pl:Nat) (w:Zw) (x:BJ S w g pl) (n:w.cell? ⟨h,0,Zn⟩=Zo (Zi Zk (k:Int))) (v:36<=k) (o:k<44) :
  Calls prog 86 #[Zp (Zo ⟨g,0,Zn⟩),Zp (Zo ⟨h,0,Zn⟩)] w fun e i=>e=Zr (Zu #[Zp Zn,.nilIface])/\i=w.drew:=by
 obtain⟨cs,d,j,c,a⟩:=x;obtain⟨z,mv,m,f,l,b⟩:=a k om o;have q:iT k=Zn:=by have:∀k,k<44->36<=k->(iT k).isNone=true:=zC;exact Option.isNone_iff_eq_none.1 (this k o v)
 rw[q]at b;have b:mv=.nilFunc:=b;subst b;have t:w.drew.cell? ⟨h,0,Zn⟩=Zo (Zi Zk (k:Int)):=n;have u:w.drew.cell? ⟨g,1+k*2+1,Zn⟩=Zo .nilFunc:=mN d _ _ f;have r:(k:Int)<44:=om;have y:=H5;clear d j c a m f l q n;go_in;go_upto_region 1 with fail;refine wp_region_held_drew (S:=fun i=>i.cell? ⟨h,0,Zn⟩=Zo (Zi Zk (k:Int))/\i.cell? ⟨g,1+k*2+1,Zn⟩=Zo .nilFunc) zK ⟨t,u⟩ (fun hHeld=>?_);generalize p:w.drew=V at *;have s:=a7 p;clear p;refine tk 0 ?_;refine tk 1 ?_;refine tk 2 ?_;refine tk 3 ?_;refine tk 4 ?_;refine tk 5 ?_;refine tk 6 ?_;refine tk 7 ?_;refine tk 8 ?_;refine tk 9 ?_;refine tk 10 ?_;refine tk 11 ?_;refine wpAnyH_done zK ?_ _;go_simp;go_wp2;go_ret2;exact⟨rfl,s.out.symm⟩
theorem sq:∀k,k<44->36<=k->∀j,j<4->((jr k).getD j 0=65->¬j<(gT k).length)/\(match (gT k).getD j .any with|.inl _=>true|.inr 0=>true|.inr 2=>decide (k=38∨k=39)|.inr _=>false)=true:=by decide
theorem sj(a:k<44)(b:4<=j):(gT k).getD j .any=.any/\¬j<(gT k).length:=by refine⟨qo a b,?_⟩;have:=vU k a;omega
theorem E7{q:Nat}(b:k<44)(a:36<=k)(h:(gT k).getD j .any=.like q):False:=by
 by_cases c:j<4;·have:=(sq k b a j c).2;rw[h]at this;cases this
 ·rw[(sj b (by omega)).1]at h;cases h
theorem Ad(b:k<44)(a:36<=k)(h:(gT k).getD j .any=.within):False:=by
 by_cases c:j<4;·have:=(sq k b a j c).2;rw[h]at this;cases this
 ·rw[(sj b (by omega)).1]at h;cases h
theorem E9(b:k<44)(a:36<=k)(h:(gT k).getD j .any=.sink):k=38∨k=39:=by
 by_cases c:j<4;·have:=(sq k b a j c).2;rw[h]at this;exact of_decide_eq_true this
 ·rw[(sj b (by omega)).1]at h;cases h
theorem E8(b:k<44)(a:36<=k)(h:(jr k).getD j 0=65):¬j<(gT k).length:=by
 by_cases c:j<4;·exact (sq k b a j c).1 h
 ·exact (sj b (by omega)).2
theorem Fi{M:Nat}{op:Int}{names:List ZN}{i:Nat}{a:List (K (M+1))}{env:jE M}(h:¬(i:Int)=o7 op):jU op names i a env=env:=by
 unfold o7 at h;unfold jU;split at h;·rw[if_neg om,if_neg om,if_neg om]
 ·split at h;·rw[if_neg om,if_neg om,if_neg om]
  ·rw[if_neg om,if_neg om,if_neg om]
end Go.Proofs.YtcfojmaccikgeaaGreatDoor
