import Derived.Test.YtcfojmaccikgeaaGreatDoorB39
import Derived.Test.YtcfojmaccikgeaaGreatDoorB30
import Derived.Test.YtcfojmaccikgeaaGreatDoorB13
import Derived.Test.YtcfojmaccikgeaaGreatDoorB2
open Go.Value renaming slice→Zs,int→Zi,string→Zt,pointer→Zp,agg→Za,tuple→Zu,bool→Zb
open Go.IntKind renaming i64→Zk
open Go.Ending renaming returned→Zr
open Go.Obj renaming cells→Zc
open Option renaming none→Zn,some→Zo
open Go renaming World→Zw,Value→Zv
open Nat renaming le_refl→Zl
open List renaming getElem_mem→Zg,take_succ_eq_append_getElem→ZA,all_eq_true→ZC
namespace Go.Proofs.YtcfojmaccikgeaaGreatDoor
open Go.RowKit Go.Proofs.Tryz
set_option maxRecDepth 100000
set_option maxHeartbeats 16000000
variable {S S' F:Nat->Prop} {w V w' w0:Zw} {M n m lb cb p q pl X Y k j:Nat} {v c0 c1 c2 c3 c4 sv skv kv:Zv} {t:TypeId} {cs:Array Zv} {xs:List Zv} {o:Option Nat}
def l9(S:Nat->Prop)(M:Nat)(env:jS M)(w:Zw)(e:Ending)(w':Zw):Prop:=
 Bw w w' /\ ∃n a,e=Zr a/\gK (Ov S w.heap.size Zn w') w' M n env a
theorem tN{env:jS M}(b:Bw w V)(a:Bd S w)(h:gK S w M n env v):gK (Ov S w.heap.size Zn V) V M n env v:=h.keep (a6 b a) fun _ h=>.inl h
theorem yO{W:Zw}(a:Bw w V)(c:Bw V W):∀b,Ov (Ov S w.heap.size Zn V) V.heap.size Zn W b->Ov S w.heap.size Zn W b:=by
 intro b h;have:=a.size;have:=c.size;rcases h with (h|h)|h;·exact .inl h
 ·exact .inr ⟨h.1,om,zS⟩
 ·exact .inr ⟨om,h.2.1,zS⟩
theorem Bt (S:Nat->Prop) (M n:Nat) (env:jS M) (op:Int) (i d:Nat) (b:Zv) (w:Zw) (a:gK S w M n env b) (k:w.cell? ⟨d,0,Zn⟩=Zo (Zi Zk op)) (l:w.cell? ⟨d,6,Zn⟩=Zo b) (hi:¬ (i:Int)=GZ op) :
  Calls prog 132 #[Zp (Zo ⟨d,0,Zn⟩),Zi Zk (i:Int)] w (l9 S M env w):=by
 obtain⟨c,rfl⟩:∃c,b=Zp c:=by rcases a.ptr with ⟨-,rfl⟩|⟨j,rfl,-⟩<;>exact⟨_,rfl⟩
 have f:Hid (Calls prog 140 _ w _):=kD op w;have g:Hid (l9 S M env w (Zr (Zp c)) w):=⟨Below.refl _ _,n,_,rfl,a.keep (fun _ _=>rfl) fun _ h=>.inl h⟩;clear a;go_in;go_wp2_with fail;refine f.out.mono ?_;rintro e w1 ⟨rfl,rfl⟩;generalize GZ op=bp at *;clear f;go_wp2;go_ret;exact g.out
theorem xK (S:Nat->Prop) (M n:Nat) (env:jS M) (op:Int) (a:Nat) (Y:Zv) (nb no t p g o v cap l:Nat) (s:ByteArray) (k:K (M+1)) (w:Zw) (J:Bd S w) (q:gK S w M n env Y) (I:w.cell? ⟨a,0,Zn⟩=Zo (Zi Zk op)) (O:w.cell? ⟨a,6,Zn⟩=Zo Y) (N:w.cell? ⟨a,3,Zn⟩=Zo (Zs (Zo ⟨nb,no,Zn⟩) (t+1) p)) (P:w.cell? ⟨nb,no,Zn⟩=Zo (Zt s)) (F:w.cell? ⟨a,8,Zn⟩=Zo (Zs (Zo ⟨g,o,Zn⟩) (v+1) cap)) (L:w.cell? ⟨g,o,Zn⟩=Zo (Zp (Zo ⟨l,0,Zn⟩))) (hs:s.size<=maxLen) (hk:d8 S w (M+1) k (Zp (Zo ⟨l,0,Zn⟩))) (y:op=20∨op=42) :
  Calls prog 132 #[Zp (Zo ⟨a,0,Zn⟩),Zi Zk 1] w (l9 S M ((s,k) :: env) w):=by
 obtain⟨m,rfl⟩:∃m,Y=Zp m:=by rcases q.ptr with ⟨-,rfl⟩|⟨H,rfl,-⟩<;>exact⟨_,rfl⟩
 have B:Hid (Calls prog 140 _ w _):=kD op w;have u:GZ op=1:=by rcases y with rfl|rfl<;>rfl
 rw[u]at B;have c:Bw w w.drew:=(Below.refl _ _).drew;have G:Hid (Calls prog 168 #[Zp m,Zt s,Zp (Zo ⟨l,0,Zn⟩)] w.drew _):=qd (Ov S w.heap.size Zn w.drew) M n env _ s k l w.drew (tN c J q) (qZ c J hk) (Ov.lt J (Zl _)) hs;clear q hk J;rcases y with rfl|rfl;·go_in;go_wp2_with fail;refine B.out.mono ?_;rintro e w ⟨rfl,rfl⟩;clear B u;have C:w.drew.cell? ⟨a,0,Zn⟩=Zo (Zi Zk 20):=I;have A:w.drew.cell? ⟨a,6,Zn⟩=Zo (Zp m):=O;have x:w.drew.cell? ⟨a,3,Zn⟩=Zo (Zs (Zo ⟨nb,no,Zn⟩) (t+1) p):=N;have D:w.drew.cell? ⟨nb,no,Zn⟩=Zo (Zt s):=P;have z:w.drew.cell? ⟨a,8,Zn⟩=Zo (Zs (Zo ⟨g,o,Zn⟩) (v+1) cap):=F;have E:w.drew.cell? ⟨g,o,Zn⟩=Zo (Zp (Zo ⟨l,0,Zn⟩)):=L;have l0:=b8 I;have T:=b8 O;have l2:=b8 N;have Z:=b8 P;have R:=b8 F;have X:=b8 L;have r:Hid (∀b:Zw,Below w.drew.heap.size w.drew b->b.cell? ⟨a,0,Zn⟩=Zo (Zi Zk 20)/\b.cell? ⟨a,6,Zn⟩=Zo (Zp m)/\b.cell? ⟨a,3,Zn⟩=Zo (Zs (Zo ⟨nb,no,Zn⟩) (t+1) p)/\b.cell? ⟨nb,no,Zn⟩=Zo (Zt s)/\b.cell? ⟨a,8,Zn⟩=Zo (Zs (Zo ⟨g,o,Zn⟩) (v+1) cap)/\b.cell? ⟨g,o,Zn⟩=Zo (Zp (Zo ⟨l,0,Zn⟩))):=fun b h=>⟨kC h C l0,kC h A T,kC h x l2,kC h D Z,kC h z R,kC h E X⟩;go_upto_region 7 with fail;refine wp_region_held_drew (S:=fun i=>i.cell? ⟨a,0,Zn⟩=Zo (Zi Zk 20)/\i.cell? ⟨a,6,Zn⟩=Zo (Zp m)/\i.cell? ⟨a,3,Zn⟩=Zo (Zs (Zo ⟨nb,no,Zn⟩) (t+1) p)/\i.cell? ⟨nb,no,Zn⟩=Zo (Zt s)/\i.cell? ⟨a,8,Zn⟩=Zo (Zs (Zo ⟨g,o,Zn⟩) (v+1) cap)/\i.cell? ⟨g,o,Zn⟩=Zo (Zp (Zo ⟨l,0,Zn⟩))) zK ⟨C,A,x,D,z,E⟩ (fun hHeld=>?_);have Q:w.drew.heap.size=w.heap.size:=rfl;generalize w.drew=V at *;refine tk 0 ?_;refine tk 1 ?_;refine tk 2 ?_;refine tk 3 ?_;refine tk 4 ?_;refine tk 5 ?_;refine tk 6 ?_;refine tk 7 ?_;refine tk 8 ?_;refine tk 9 ?_;refine tk 10 ?_;refine tk 11 ?_;refine tk 12 ?_;refine iT 13 fun K hK=>?_;go_simp;go_at_call 168;refine G.out.mono ?_;rintro e U ⟨H,rfl,f,d⟩;have W:Hid (l9 S M ((s,k) :: env) w (Zr (Zp (Zo ⟨H,0,Zn⟩))) U):=⟨c.trans (f.mono c.size),_,_,rfl,d.keep (fun _ _=>rfl) (yO c f)⟩;clear d G;refine hK.out _ _ (r.out _ f) (fun hHeld=>?_);clear hK K;refine tk 14 ?_;refine wpAnyH_done zK ?_ _;go_simp;go_wp2;go_ret;exact W.out
 ·go_in;go_wp2_with fail;refine B.out.mono ?_;rintro e w ⟨rfl,rfl⟩;clear B u;have C:w.drew.cell? ⟨a,0,Zn⟩=Zo (Zi Zk 42):=I;have A:w.drew.cell? ⟨a,6,Zn⟩=Zo (Zp m):=O;have x:w.drew.cell? ⟨a,3,Zn⟩=Zo (Zs (Zo ⟨nb,no,Zn⟩) (t+1) p):=N;have D:w.drew.cell? ⟨nb,no,Zn⟩=Zo (Zt s):=P;have z:w.drew.cell? ⟨a,8,Zn⟩=Zo (Zs (Zo ⟨g,o,Zn⟩) (v+1) cap):=F;have E:w.drew.cell? ⟨g,o,Zn⟩=Zo (Zp (Zo ⟨l,0,Zn⟩)):=L;have l0:=b8 I;have T:=b8 O;have l2:=b8 N;have Z:=b8 P;have R:=b8 F;have X:=b8 L;have r:Hid (∀b:Zw,Below w.drew.heap.size w.drew b->b.cell? ⟨a,0,Zn⟩=Zo (Zi Zk 42)/\b.cell? ⟨a,6,Zn⟩=Zo (Zp m)/\b.cell? ⟨a,3,Zn⟩=Zo (Zs (Zo ⟨nb,no,Zn⟩) (t+1) p)/\b.cell? ⟨nb,no,Zn⟩=Zo (Zt s)/\b.cell? ⟨a,8,Zn⟩=Zo (Zs (Zo ⟨g,o,Zn⟩) (v+1) cap)/\b.cell? ⟨g,o,Zn⟩=Zo (Zp (Zo ⟨l,0,Zn⟩))):=fun b h=>⟨kC h C l0,kC h A T,kC h x l2,kC h D Z,kC h z R,kC h E X⟩;go_upto_region 7 with fail;refine wp_region_held_drew (S:=fun i=>i.cell? ⟨a,0,Zn⟩=Zo (Zi Zk 42)/\i.cell? ⟨a,6,Zn⟩=Zo (Zp m)/\i.cell? ⟨a,3,Zn⟩=Zo (Zs (Zo ⟨nb,no,Zn⟩) (t+1) p)/\i.cell? ⟨nb,no,Zn⟩=Zo (Zt s)/\i.cell? ⟨a,8,Zn⟩=Zo (Zs (Zo ⟨g,o,Zn⟩) (v+1) cap)/\i.cell? ⟨g,o,Zn⟩=Zo (Zp (Zo ⟨l,0,Zn⟩))) zK ⟨C,A,x,D,z,E⟩ (fun hHeld=>?_);have Q:w.drew.heap.size=w.heap.size:=rfl;generalize w.drew=V at *;refine tk 0 ?_;refine tk 1 ?_;refine tk 2 ?_;refine tk 3 ?_;refine tk 4 ?_;refine tk 5 ?_;refine tk 6 ?_;refine tk 7 ?_;refine tk 8 ?_;refine tk 9 ?_;refine tk 10 ?_;refine tk 11 ?_;refine tk 12 ?_;refine iT 13 fun K hK=>?_;go_simp;go_at_call 168;refine G.out.mono ?_;rintro e U ⟨H,rfl,f,d⟩;have W:Hid (l9 S M ((s,k) :: env) w (Zr (Zp (Zo ⟨H,0,Zn⟩))) U):=⟨c.trans (f.mono c.size),_,_,rfl,d.keep (fun _ _=>rfl) (yO c f)⟩;clear d G;refine hK.out _ _ (r.out _ f) (fun hHeld=>?_);clear hK K;refine tk 14 ?_;refine wpAnyH_done zK ?_ _;go_simp;go_wp2;go_ret;exact W.out
theorem AF (S:Nat->Prop) (M n:Nat) (env:jS M) (op:Int) (a:Nat) (I:Zv) (nb no E C g o F cap l:Nat) (s:ByteArray) (k:K (M+1)) (w:Zw) (D:Bd S w) (j:gK S w M n env I) (T:w.cell? ⟨a,0,Zn⟩=Zo (Zi Zk op)) (e1:w.cell? ⟨a,6,Zn⟩=Zo I) (W:w.cell? ⟨a,3,Zn⟩=Zo (Zs (Zo ⟨nb,no,Zn⟩) (E+1) C)) (e3:w.cell? ⟨nb,no,Zn⟩=Zo (Zt s)) (J:w.cell? ⟨a,8,Zn⟩=Zo (Zs (Zo ⟨g,o,Zn⟩) (F+1) cap)) (U:w.cell? ⟨g,o,Zn⟩=Zo (Zp (Zo ⟨l,0,Zn⟩))) (hs:s.size<=maxLen) (Z:d8 S w (M+1) k (Zp (Zo ⟨l,0,Zn⟩))) (ok:gV (M+1) k=true) (r:op=32∨op=33∨op=34∨op=43) (B:Kd.sort k=4∨Kd.sort k=6) :
  Calls prog 132 #[Zp (Zo ⟨a,0,Zn⟩),Zi Zk 1] w (l9 S M ((s,mN k) :: env) w):=by
 obtain⟨m,rfl⟩:∃m,I=Zp m:=by rcases j.ptr with ⟨-,rfl⟩|⟨R,rfl,-⟩<;>exact⟨_,rfl⟩
 have H:Hid (Calls prog 140 _ w _):=kD op w;have z:GZ op=1:=by rcases r with rfl|rfl|rfl|rfl<;>rfl
 rw[z]at H;have b:Bw w w.drew:=(Below.refl _ _).drew;obtain⟨y,g2,o2,q,G,A,x,u⟩:=Z.within ok B;have N:Hid (Calls prog 167 _ w.drew _):=k8 w.drew l g2 o2 0 q G A x om;have L:Hid (Calls prog 168 #[Zp m,Zt s,Zp (Zo ⟨G,0,Zn⟩)] w.drew _):=qd (Ov S w.heap.size Zn w.drew) M n env _ s (mN k) G w.drew (tN b D j) (qZ b D u) (Ov.lt D (Zl _)) hs;have d:¬op=20/\¬op=42/\¬op=35:=om;obtain⟨d,aa,X⟩:=d;clear j Z D A x u y ok B r;go_in;go_wp2_with fail;refine H.out.mono ?_;rintro e w ⟨rfl,rfl⟩;clear H z;have Y:w.drew.cell? ⟨a,0,Zn⟩=Zo (Zi Zk op):=T;have Q:w.drew.cell? ⟨a,6,Zn⟩=Zo (Zp m):=e1;have O:w.drew.cell? ⟨a,3,Zn⟩=Zo (Zs (Zo ⟨nb,no,Zn⟩) (E+1) C):=W;have d3:w.drew.cell? ⟨nb,no,Zn⟩=Zo (Zt s):=e3;have P:w.drew.cell? ⟨a,8,Zn⟩=Zo (Zs (Zo ⟨g,o,Zn⟩) (F+1) cap):=J;have d5:w.drew.cell? ⟨g,o,Zn⟩=Zo (Zp (Zo ⟨l,0,Zn⟩)):=U;have l0:=b8 T;have l1:=b8 e1;have l2:=b8 W;have l3:=b8 e3;have l4:=b8 J;have l5:=b8 U;have v:Hid (∀c:Zw,Below w.drew.heap.size w.drew c->c.cell? ⟨a,0,Zn⟩=Zo (Zi Zk op)/\c.cell? ⟨a,6,Zn⟩=Zo (Zp m)/\c.cell? ⟨a,3,Zn⟩=Zo (Zs (Zo ⟨nb,no,Zn⟩) (E+1) C)/\c.cell? ⟨nb,no,Zn⟩=Zo (Zt s)/\c.cell? ⟨a,8,Zn⟩=Zo (Zs (Zo ⟨g,o,Zn⟩) (F+1) cap)/\c.cell? ⟨g,o,Zn⟩=Zo (Zp (Zo ⟨l,0,Zn⟩))):=fun c h=>⟨kC h Y l0,kC h Q l1,kC h O l2,kC h d3 l3,kC h P l4,kC h d5 l5⟩;go_upto_region 10 with fail;refine wp_region_held_drew (S:=fun p=>p.cell? ⟨a,0,Zn⟩=Zo (Zi Zk op)/\p.cell? ⟨a,6,Zn⟩=Zo (Zp m)/\p.cell? ⟨a,3,Zn⟩=Zo (Zs (Zo ⟨nb,no,Zn⟩) (E+1) C)/\p.cell? ⟨nb,no,Zn⟩=Zo (Zt s)/\p.cell? ⟨a,8,Zn⟩=Zo (Zs (Zo ⟨g,o,Zn⟩) (F+1) cap)/\p.cell? ⟨g,o,Zn⟩=Zo (Zp (Zo ⟨l,0,Zn⟩))) zK ⟨Y,Q,O,d3,P,d5⟩ (fun hHeld=>?_);have ab:w.drew.heap.size=w.heap.size:=rfl;generalize w.drew=V at *;refine tk 0 ?_;refine tk 1 ?_;refine tk 2 ?_;refine tk 3 ?_;refine tk 4 ?_;refine tk 5 ?_;refine tk 6 ?_;refine tk 7 ?_;refine tk 8 ?_;refine tk 9 ?_;refine tk 10 ?_;refine tk 11 ?_;refine tk 12 ?_;refine iT 13 fun K hK=>?_;go_simp;go_at_call 167;refine N.out.mono ?_;rintro e w2 ⟨rfl,rfl⟩;clear N;refine hK.out _ _ (v.out _ (Below.refl _ _)) (fun hHeld=>?_);clear hK K;refine iT 14 fun K hK=>?_;go_simp;go_at_call 168;refine L.out.mono ?_;rintro e w3 ⟨R,rfl,i,f⟩;have HF:Hid (l9 S M ((s,mN k) :: env) w (Zr (Zp (Zo ⟨R,0,Zn⟩))) w3):=⟨b.trans (i.mono b.size),_,_,rfl,f.keep (fun _ _=>rfl) (yO b i)⟩;clear f L;refine hK.out _ _ (v.out _ i) (fun hHeld=>?_);clear hK K;refine tk 15 ?_;refine wpAnyH_done zK ?_ _;go_simp;go_wp2;go_ret;exact HF.out
theorem vI (S:Nat->Prop) (M n:Nat) (env:jS M) (op:Int) (b:Nat) (T:Zv) (nb no A O g o B cap p u:Nat) (s j:ByteArray) (k x:K (M+1)) (w:Zw) (E:Bd S w) (q:gK S w M n env T) (C:op=35) (e0:w.cell? ⟨b,0,Zn⟩=Zo (Zi Zk 35)) (e1:w.cell? ⟨b,6,Zn⟩=Zo T) (e2:w.cell? ⟨b,3,Zn⟩=Zo (Zs (Zo ⟨nb,no,Zn⟩) (A+2) O)) (e3:w.cell? ⟨nb,no,Zn⟩=Zo (Zt s)) (Y:w.cell? ⟨b,8,Zn⟩=Zo (Zs (Zo ⟨g,o,Zn⟩) (B+2) cap)) (e5:w.cell? ⟨g,o,Zn⟩=Zo (Zp (Zo ⟨p,0,Zn⟩))) (e6:w.cell? ⟨nb,no+1,Zn⟩=Zo (Zt j)) (e7:w.cell? ⟨g,o+1,Zn⟩=Zo (Zp (Zo ⟨u,0,Zn⟩))) (hs:s.size<=maxLen) (R:j.size<=maxLen) (hk:d8 S w (M+1) k (Zp (Zo ⟨p,0,Zn⟩))) (ok:gV (M+1) k=true) (N:Kd.sort k=4) (hx:d8 S w (M+1) x (Zp (Zo ⟨u,0,Zn⟩))) :
  Calls prog 132 #[Zp (Zo ⟨b,0,Zn⟩),Zi Zk 2] w (l9 S M ((j,mN k) :: (s,x) :: env) w):=by
 obtain⟨z,rfl⟩:∃z,T=Zp z:=by rcases q.ptr with ⟨-,rfl⟩|⟨sb,rfl,-⟩<;>exact⟨_,rfl⟩
 have X:Hid (Calls prog 140 _ w _):=kD op w;have G:GZ op=2:=by rw[C];rfl
 rw[G]at X;have d:Bw w w.drew:=(Below.refl _ _).drew;obtain⟨F,g2,o2,I,Q,r,y,L⟩:=hk.within ok (.inl N);have m3:=b8 r;have m0:=b8 y;have HI:Hid (∀V,Below w.drew.heap.size w.drew V->Calls prog 167 #[Zp (Zo ⟨p,0,Zn⟩)] V fun e i=>e=Zr (Zp (Zo ⟨Q,0,Zn⟩))/\i=V):=fun V hV=>k8 V p g2 o2 0 I Q (kC hV r m3) (kC hV y m0) om;have Z:Hid (Calls prog 168 #[Zp z,Zt s,Zp (Zo ⟨u,0,Zn⟩)] w.drew _):=qd (Ov S w.heap.size Zn w.drew) M n env _ s x u w.drew (tN d E q) (qZ d E hx) (Ov.lt E (Zl _)) hs;have D:=a7 E;have U:=a7 L;have i0:(0:Int)<(A:Int)+2:=om;have i1:(1:Int)<(A:Int)+2:=om;have i2:(0:Int)<(B:Int)+2:=om;have i3:(1:Int)<(B:Int)+2:=om;subst C;clear q hk E r y L F ok N hx;go_in;go_wp2_with fail;refine X.out.mono ?_;rintro e w ⟨rfl,rfl⟩;clear X G;have d0:w.drew.cell? ⟨b,0,Zn⟩=Zo (Zi Zk 35):=e0;have d1:w.drew.cell? ⟨b,6,Zn⟩=Zo (Zp z):=e1;have d2:w.drew.cell? ⟨b,3,Zn⟩=Zo (Zs (Zo ⟨nb,no,Zn⟩) (A+2) O):=e2;have d3:w.drew.cell? ⟨nb,no,Zn⟩=Zo (Zt s):=e3;have d4:w.drew.cell? ⟨b,8,Zn⟩=Zo (Zs (Zo ⟨g,o,Zn⟩) (B+2) cap):=Y;have d5:w.drew.cell? ⟨g,o,Zn⟩=Zo (Zp (Zo ⟨p,0,Zn⟩)):=e5;have d6:w.drew.cell? ⟨nb,no+1,Zn⟩=Zo (Zt j):=e6;have d7:w.drew.cell? ⟨g,o+1,Zn⟩=Zo (Zp (Zo ⟨u,0,Zn⟩)):=e7;have l0:=b8 e0;have l1:=b8 e1;have l2:=b8 e2;have l3:=b8 e3;have l4:=b8 Y;have l5:=b8 e5;have l6:=b8 e6;have l7:=b8 e7;have v:Hid (∀f:Zw,Below w.drew.heap.size w.drew f->f.cell? ⟨b,0,Zn⟩=Zo (Zi Zk 35)/\f.cell? ⟨b,6,Zn⟩=Zo (Zp z)/\f.cell? ⟨b,3,Zn⟩=Zo (Zs (Zo ⟨nb,no,Zn⟩) (A+2) O)/\f.cell? ⟨nb,no,Zn⟩=Zo (Zt s)/\f.cell? ⟨b,8,Zn⟩=Zo (Zs (Zo ⟨g,o,Zn⟩) (B+2) cap)/\f.cell? ⟨g,o,Zn⟩=Zo (Zp (Zo ⟨p,0,Zn⟩))/\f.cell? ⟨nb,no+1,Zn⟩=Zo (Zt j)/\f.cell? ⟨g,o+1,Zn⟩=Zo (Zp (Zo ⟨u,0,Zn⟩))):=fun f h=>⟨kC h d0 l0,kC h d1 l1,kC h d2 l2,kC h d3 l3,kC h d4 l4,kC h d5 l5,kC h d6 l6,kC h d7 l7⟩;go_upto_region 9 with fail;refine wp_region_held_drew (S:=fun i=>i.cell? ⟨b,0,Zn⟩=Zo (Zi Zk 35)/\i.cell? ⟨b,6,Zn⟩=Zo (Zp z)/\i.cell? ⟨b,3,Zn⟩=Zo (Zs (Zo ⟨nb,no,Zn⟩) (A+2) O)/\i.cell? ⟨nb,no,Zn⟩=Zo (Zt s)/\i.cell? ⟨b,8,Zn⟩=Zo (Zs (Zo ⟨g,o,Zn⟩) (B+2) cap)/\i.cell? ⟨g,o,Zn⟩=Zo (Zp (Zo ⟨p,0,Zn⟩))/\i.cell? ⟨nb,no+1,Zn⟩=Zo (Zt j)/\i.cell? ⟨g,o+1,Zn⟩=Zo (Zp (Zo ⟨u,0,Zn⟩))) zK ⟨d0,d1,d2,d3,d4,d5,d6,d7⟩ (fun hHeld=>?_);have aa:w.drew.heap.size=w.heap.size:=rfl;generalize w.drew=V at *;refine tk 0 ?_;refine tk 1 ?_;refine tk 2 ?_;refine tk 3 ?_;refine tk 4 ?_;refine tk 5 ?_;refine tk 6 ?_;refine tk 7 ?_;refine tk 8 ?_;refine tk 9 ?_;refine tk 10 ?_;refine tk 11 ?_;refine tk 12 ?_;refine tk 14 ?_;refine tk 15 ?_;refine tk 16 ?_;refine tk 17 ?_;refine tk 18 ?_;refine tk 19 ?_;refine tk 20 ?_;refine tk 21 ?_;refine tk 22 ?_;refine iT 13 fun K hK=>?_;go_simp;go_at_call 168;refine Z.out.mono ?_;rintro e P ⟨sb,rfl,c,m⟩;have a:=d.trans (c.mono d.size);have H:Hid (Calls prog 168 #[Zp (Zo ⟨sb,0,Zn⟩),Zt j,Zp (Zo ⟨Q,0,Zn⟩)] P _):=qd (Ov S w.heap.size Zn P) M (n+1) ((s,x) :: env) _ j (mN k) Q P (m.keep (fun _ _=>rfl) (yO d c)) (qZ a D.out U.out) (Ov.lt D.out a.size) R;clear m Z;refine hK.out _ _ (v.out _ c) (fun hHeld=>?_);clear hK K;refine iT 23 fun K hK=>?_;go_simp;go_at_call 167;refine (HI.out P c).mono ?_;rintro e w3 ⟨rfl,rfl⟩;clear HI;refine hK.out _ _ (v.out _ c) (fun hHeld=>?_);clear hK K;refine iT 24 fun K hK=>?_;go_simp;go_at_call 168;refine H.out.mono ?_;rintro e w4 ⟨W,rfl,t,l⟩;have HF:Hid (l9 S M ((j,mN k) :: (s,x) :: env) w (Zr (Zp (Zo ⟨W,0,Zn⟩))) w4):=⟨a.trans (t.mono a.size),_,_,rfl,l.keep (fun _ _=>rfl) (yO a t)⟩;clear l H;refine hK.out _ _ (v.out _ (c.trans (t.mono c.size))) (fun hHeld=>?_);clear hK K;refine tk 25 ?_;refine wpAnyH_done zK ?_ _;go_simp;go_wp2;go_ret;exact HF.out
def nF(c p:Int):Zv:=.iface 153 (Za #[Zi Zk c,Zi Zk p])
theorem yY{P:Program}{ps rs:Array TypeId}{b:Bool}(d:Nat)(a:Fn)(first cap:Array Zv)(w:Zw)(h:P.underlying t=Zo (.func ps rs b)):(Op.equalIn (d+1) t (.func a first cap) .nilFunc).run P w=.ok false w:=by simp[Op.equalIn,run_underlying h]
theorem Tryz.mfunc_eq(a:Fn)(first cap:Array Zv)(w:Zw):(binOp .eql 134 (.func a first cap) .nilFunc).run prog w=.ok (Zb false) w:=by have:(Op.equal 134 (.func a first cap) .nilFunc).run prog w=.ok false w:=yY 9999 a first cap w underlying134;simp only[binOp];simp[this]
theorem vq(a p:Nat)(c:Int)(w:Zw)(d:w.cell? ⟨a,5,Zn⟩=Zo (Zi Zk (p:Int))):Calls prog 84 #[Zp (Zo ⟨a,0,Zn⟩),Zi Zk c] w fun e b=>e=Zr (nF c p)/\b=w:=by unfold nF;go_in;go_wp2;go_ret;exact⟨rfl,rfl⟩
theorem pW{b:Nat}(h:w.heap[b]?=Zo (Zc cs t (0,0)))(i:Nat)(v:Zv)(hi:cs[i]?=Zo v):w.cell? ⟨b,i,Zn⟩=Zo v:=by simp[World.cell?,h,hi]
theorem mG.keep{t:T (m+1)}{c:Nat}{env:jS M}{l:K (M+1)}{o:List (K (M+1))}(h:mG S w M m lb t c env l o)(f:jy S w w')(p:w'.heap[lb]?=w.heap[lb]?)(d:∀b,S b->S' b):mG S' w' M m lb t c env l o:=by obtain⟨n,c0,c1,c2,c3,c4,r,j,q,k,a,i,g,e⟩:=h.box;exact⟨⟨n,c0,c1,c2,c3,c4,r,j,q,p.trans k,a.keep f d,i.keep f d,g.keep f d,e.keep f d fun _ _ _ s=>s.keep f d⟩⟩
def sN(S:Nat->Prop)(M:Nat)(r:K (M+1)×Int×Nat)(w:Zw)(e:Ending)(w':Zw):Prop:=
 Bw w w' /\ ((r.2.1=0/\∃b,e=Zr (Zu #[Zp (Zo ⟨b,0,Zn⟩),.nilIface])/\d8 (Ov S w.heap.size Zn w') w' (M+1) r.1 (Zp (Zo ⟨b,0,Zn⟩)))∨(r.2.1≠0/\e=Zr (Zu #[Zp Zn,nF r.2.1 r.2.2])))
theorem CP (S:Nat->Prop) (M m k P q pl a:Nat) (hM:5<=M) (t:T (m+1)) (env:jS M) (sk:K (M+1)) (l:List (K (M+1))) (w:Zw) (R:Bd S w) (hc:Fs S w P pl) (hl:mG S w M m q t a env sk l) (hk:Nd.sort t=(k:Int)) (h1:1<=k) (h2:k<=35) (B:xw (je k) (Nd.names t) (Nd.text t) l) (G:Fa (je k) (Nd.names t) env l) :
  Calls prog 86 #[Zp (Zo ⟨P,0,Zn⟩),Zp (Zo ⟨q,0,Zn⟩)] w (sN S M (mg (show Nd (T m) from t) env l a) w):=by
 have o:Bw w w.drew:=(Below.refl _ _).drew;obtain⟨cs,I,al,X,s⟩:=hc;obtain⟨wv,mv,ak,af,ai,J⟩:=s k h1 om;obtain⟨d,hd⟩:∃d,je k=Zo d:=by have:∀k,k<36->1<=k->(je k).isSome=true:=zC;exact Option.isSome_iff_exists.1 (this k om h1)
 rw[hd]at J B G;have ad:mg (show Nd (T m) from t) env l a=if (lV (Zo d) (Nd.names t) (Nd.text t) env l).2≠0 then (zU,(lV (Zo d) (Nd.names t) (Nd.text t) env l).2,a) else if gV (M+2) (lV (Zo d) (Nd.names t) (Nd.text t) env l).1=true then (fQ M (M+2) (lV (Zo d) (Nd.names t) (Nd.text t) env l).1,0,0) else (zU,7,a):=by have e:=Hr (M:=M) k h1 h2 (Nd.names t) (Nd.text t) env l;rw[hd,<- hk]at e;unfold mg;rw[if_neg (by show ¬36<=Nd.sort t;omega),show fX (Nd.sort t) (Nd.names t) (Nd.text t) env l=_ from e]
 obtain⟨n,c0,c1,c2,c3,c4,sv,an,kv,Z,y,ag,U,Q⟩:=hl.box;obtain⟨q0,q1,q2,q3,q4,q5,q6,q7,q8⟩:=iD Z;obtain⟨ac,-⟩:=id y;have e0:w.cell? ⟨q,0,Zn⟩=Zo (Zi Zk (k:Int)):=by rw[q0,ac,hk]
 have e1:w.cell? ⟨P,1+k*2+1,Zn⟩=Zo mv:=pW I _ _ af;have ae:mG S w.drew M m q t a env sk l:=hl.keep (a6 o R) rfl fun _ h=>h;obtain⟨f,cap,rfl,eg,z⟩:=Em hM ae R (J.keep (a6 o R) fun _ h=>h) B;have HC:Hid (∀args:Array Zv,args=#[Zp (Zo ⟨q,0,Zn⟩)]++cap->Calls prog f args w.drew _):=z;have A:Hid ((lV (Zo d) (Nd.names t) (Nd.text t) env l).2=0->nE (M+2) (lV (Zo d) (Nd.names t) (Nd.text t) env l).1=true):=Fg hM B G;have l5:=b8 q5;have HB:=a7 R;generalize lV (Zo d) (Nd.names t) (Nd.text t) env l=r at *;obtain⟨ck,cc⟩:=r;generalize mg (show Nd (T m) from t) env l a=mr at *;have u:=a7 ad;have am:(k:Int)<44:=om;have ao:=Tryz.mfunc_eq;clear ad z ae J Q U ag y Z ai s X B G hl R hd;go_in;have d0:w.drew.cell? ⟨q,0,Zn⟩=Zo (Zi Zk (k:Int)):=e0;have d1:w.drew.cell? ⟨P,1+k*2+1,Zn⟩=Zo (.func (.func f) #[] cap):=e1;have l0:=b8 e0;have l1:=b8 e1;have aj:Hid (∀V':Zw,Below w.drew.heap.size w.drew V'->V'.cell? ⟨q,0,Zn⟩=Zo (Zi Zk (k:Int))/\V'.cell? ⟨P,1+k*2+1,Zn⟩=Zo (.func (.func f) #[] cap)):=fun V' h=>⟨kC h d0 l0,kC h d1 l1⟩;go_upto_region 1 with fail;refine wp_region_held_drew (S:=fun w'=>w'.cell? ⟨q,0,Zn⟩=Zo (Zi Zk (k:Int))/\w'.cell? ⟨P,1+k*2+1,Zn⟩=Zo (.func (.func f) #[] cap)) zK ⟨d0,d1⟩ (fun hHeld=>?_);have ab:w.drew.heap.size=w.heap.size:=rfl;generalize w.drew=V at *;refine tk 0 ?_;refine tk 1 ?_;refine tk 2 ?_;refine tk 3 ?_;refine tk 4 ?_;refine tk 5 ?_;refine tk 6 ?_;refine tk 7 ?_;refine tk 8 ?_;refine tk 9 ?_;refine tk 10 ?_;refine tk 11 ?_;refine wpAnyH_done zK ?_ _;go_simp;have d5:V.cell? ⟨q,5,Zn⟩=Zo (Zi Zk (a:Int)):=kC o q5 l5;have Y:Hid (∀W,Bw V W->∀b,Ov S V.heap.size Zn W b->b<W.heap.size):=fun W hW=>Ov.lt (fun b hb=>by rw[ab];exact HB.out b hb) hW.size;have ah:Hid (∀W,Bw V W->∀b,Ov S V.heap.size Zn W b->Ov S w.heap.size Zn W b):=fun W hW b hb=>by rw[<- ab];exact hb
 clear aj hHeld q0 q1 q2 q3 q4 q5 q6 q7 q8 d0 d1 e0 e1 I al ak af ac HB;go_wp2_with fail;refine (HC.out _ (by first|rfl|simp)).mono ?_;rintro e w1 ⟨j,⟨v,b,rfl,C⟩|⟨v,rfl⟩⟩
 ·subst v;have g:=o.trans (j.mono o.size);have O:Hid (Calls prog 133 _ w1 _):=sS (M+2) _ ck _ w1 C (A.out rfl) (Y.out w1 j);cases hok:gV (M+2) ck with
  | true=>
   have aa:=a7 (d8.okd hok hM C);rw[hok]at O;have F:Hid (mr=(fQ M (M+2) ck,0,0)):=by show _=_;rw[u.out,if_neg zS,if_pos hok]
   clear C hok HC A u;go_wp2_with fail;refine O.out.mono ?_;rintro e N ⟨rfl,i⟩;have E:=j.trans (i.mono j.size);have L:Hid (sN S M mr w (Zr (Zu #[Zp (Zo ⟨b,0,Zn⟩),.nilIface])) N):=by
    show sN _ _ _ _ _ _;rw[F.out];exact⟨g.trans (i.mono g.size),.inl ⟨rfl,b,rfl,aa.out.keep (fun x D=>i.block x (Y.out w1 j x D)) fun x D=>ah.out N E x (by
     rcases D with D|D
     ·exact .inl D
     ·exact .inr ⟨D.1,by have:=i.size;have:=D.2.1;omega,zS⟩)⟩⟩
   clear O aa i E F;go_wp2_with fail;refine bodyPost_ret (by simp[results,results86,go_sem];rfl) rfl ?_;exact L.out
  | false=>
   rw[hok]at O;have F:Hid (mr=(zU,7,a)):=by show _=_;rw[u.out,if_neg zS,if_neg (by rw[hok];simp)]
   clear C hok HC A u;go_wp2_with fail;refine O.out.mono ?_;rintro e N ⟨rfl,i⟩;have H:Hid (Calls prog 84 _ N _):=vq q a 7 N ((j.trans (i.mono j.size)).cell (p:=⟨q,5,Zn⟩) (by show q<_;omega) |>.trans d5);have L:Hid (sN S M mr w (Zr (Zu #[Zp Zn,nF 7 a])) N):=by show sN _ _ _ _ _ _;rw[F.out];exact⟨g.trans (i.mono g.size),.inr ⟨by show (7:Int)≠0;decide,rfl⟩⟩
   clear O i F;unfold nF at H L;go_wp2_with fail;refine H.out.mono ?_;rintro e w3 ⟨rfl,rfl⟩;clear H;go_wp2_with fail;refine bodyPost_ret (by simp[results,results86,go_sem];rfl) rfl ?_;exact L.out
 ·have g:=o.trans (j.mono o.size);have F:Hid (mr=(zU,cc,a)):=by show _=_;rw[u.out,if_pos v]
  have H:Hid (Calls prog 84 _ w1 _):=vq q a cc w1 (j.cell (p:=⟨q,5,Zn⟩) (by show q<_;omega) |>.trans d5);have L:Hid (sN S M mr w (Zr (Zu #[Zp Zn,nF cc a])) w1):=by show sN _ _ _ _ _ _;rw[F.out];exact⟨g,.inr ⟨v,rfl⟩⟩
  have I:(cc==0)=false:=by simpa using v
  clear HC A u F;unfold nF at H L;go_wp2_with fail;refine H.out.mono ?_;rintro e w3 ⟨rfl,rfl⟩;clear H;go_wp2_with fail;refine bodyPost_ret (by simp[results,results86,go_sem];rfl) rfl ?_;exact L.out
def mi:Nat->Zv->Int->Nat->Prop
 | 0,v,c,p=>v=nF c p
 | d+1,v,c,p=>v=nF c p∨∃op a,v=.iface 151 (Za #[Zi Zk op,a])/\mi d a c p
theorem mi.iface:∀ {d:Nat} {v:Zv} {c:Int} {p:Nat},mi d v c p->∃t x,v=.iface t x:=by
 intro d;cases d with
 | zero=>intro v c p h;exact⟨_,_,h⟩
 | succ d=>
  intro v c p h;rcases h with h|⟨op,a,h,-⟩;·exact⟨_,_,h⟩
  ·exact⟨_,_,h⟩
def nJ(F:Nat->Prop)(w:Zw)(cs:Array Zv):Prop:=cs.size=89/\∀k,1<=k->k<44->∃a mv,cs[1+k*2]?=Zo a/\cs[1+k*2+1]?=Zo mv/\kT F w k a mv
theorem nJ.keep(h:nJ S w cs)(g:jy S w w')(i:∀b,S b->S' b):nJ S' w' cs:=
 ⟨h.1,fun k e d=>by obtain⟨f,mv,a,b,c⟩:=h.2 k e d;exact⟨f,mv,a,b,c.keep g i⟩⟩
def mH(cs:Array Zv)(p:Nat):Obj:=Zc (cs.push (Zi Zk (p:Int))) 141 (0,0)
theorem nJ.chk(h:nJ F w cs)(f:w.heap[cb]?=Zo (mH cs p)):Fs F w cb p:=by
 refine⟨_,f,by simp[h.1],by rw[Array.getElem?_push,if_pos h.1.symm],fun k e d=>?_⟩;obtain⟨g,mv,a,b,c⟩:=h.2 k e d;have:=h.1;refine⟨g,mv,?_,?_,c⟩;·rw[Array.getElem?_push,if_neg om];exact a
 ·rw[Array.getElem?_push,if_neg om];exact b
theorem th(b:cs.size=89)(a:w.heap[cb]?=Zo (mH cs p)):w.cell? ⟨cb,89,Zn⟩=Zo (Zi Zk (p:Int))/\w.frozen? ⟨cb,89,Zn⟩=false:=by unfold mH at a;exact⟨pW a _ _ (by rw[Array.getElem?_push,if_pos b.symm]),by simp[World.frozen?,a]⟩
theorem Gf(cs:Array Zv)(a b:Zv):(cs.push a).setIfInBounds cs.size b=cs.push b:=by apply Array.ext';simp
theorem H1(b:cs.size=89)(a:w.heap[cb]?=Zo (mH cs p)):(w.setCell ⟨cb,89,Zn⟩ (Zi Zk (q:Int))).heap[cb]?=Zo (mH cs q):=by unfold mH at a ⊢;simp only[World.setCell,Array.getElem?_modify,a,if_pos,Option.map_some];rw[<- b,Gf];rfl
def qV(F:Nat->Prop)(M:Nat)(r:K (M+1)×Int×Nat)(cs:Array Zv)(a b:Nat)(w:Zw)(e:Ending)(w':Zw):Prop:=
 b7 a w w' /\ ((r.2.1=0/\∃v,e=Zr (Zu #[v,.nilIface])/\uC (Ov F w.heap.size Zn w') w' M r.1 v/\w'.heap[a]?=Zo (mH cs b))∨(r.2.1≠0/\∃v d,e=Zr (Zu #[Zp Zn,v])/\mi d v r.2.1 r.2.2))
structure tq(F:Nat->Prop)(M m:Nat)(w0:Zw)(cb:Nat)(cs:Array Zv)(t:T (m+1))(c0 c1 c2 c3 c4:Zv)(env:jS M)(n:Nat)(sv:Zv)(sk:K (M+1))(skv:Zv):Prop where
 fz:∀b,F b->b<w0.heap.size/\b≠cb
 cblt:cb<w0.heap.size
 rules:nJ F w0 cs
 node:fZ F w0 (m+1) t c0 c1 c2 c3 c4
 scope:gK F w0 M n env sv
 sink:uC F w0 M sk skv
structure iI(F:Nat->Prop)(M:Nat)(w0:Zw)(cb:Nat)(cs:Array Zv)(lb:Nat)(c0 c1 c2 c3 c4 sv skv:Zv)(pl p:Nat)(ks:List (K (M+1)))(kv:Zv)(xs:List Zv)(w:Zw):Prop where
 near:b7 cb w0 w
 chk:w.heap[cb]?=Zo (mH cs p)
 ge:w0.heap.size<=lb
 box:w.heap[lb]?=Zo (Zc #[c0,c1,c2,c3,c4,Zi Zk (pl:Int),sv,skv,kv] 144 (0,0))
 own:w.ownsRow (lb+1) 82 1 kv ks.length xs
 kids:∀i (h:i<ks.length) (hx:i<xs.length),uC (Ov F (lb+1) kv.ownBlock w) w M ks[i] xs[i]
theorem iI.lt{a:List (K (M+1))}(h:iI F M w0 cb cs lb c0 c1 c2 c3 c4 sv skv pl p a kv xs w):lb<w.heap.size:=(Array.getElem?_eq_some_iff.1 h.box).1
theorem Ov.less:∀b,Ov S X o w b->Ov S X Zn w b:=fun _ h=>h.imp id fun h=>⟨h.1,h.2.1,zS⟩
theorem Ov.none(a:Y<=X)(c:w.heap.size<=w'.heap.size):∀b,Ov S X o w b->Ov S Y Zn w' b:=fun _ h=>h.imp id fun h=>⟨om,om,zS⟩
theorem iI.look {t:T (m+1)} {env:jS M} {d:K (M+1)} {c:List (K (M+1))} (a:tq F M m w0 cb cs t c0 c1 c2 c3 c4 env n sv d skv) (h:iI F M w0 cb cs lb c0 c1 c2 c3 c4 sv skv pl p c kv xs w) (l:c.length<=1000) (k:Y<=lb+1) :
  mG (Ov F Y Zn w) w M m lb t pl env d c:=by have b:=h.near.same a.fz;have f:=h.lt;refine⟨⟨n,c0,c1,c2,c3,c4,sv,skv,kv,h.box,a.node.keep b fun _ h=>.inl h,a.scope.keep b fun _ h=>.inl h,a.sink.keep b fun _ h=>.inl h,?_⟩⟩;refine nj h.own (by unfold maxLen;omega) (fun g e=>.inr ⟨by have:=(fR h.own g e).1;omega,(fR h.own g e).2,zS⟩) fun i hi j=>?_;exact (h.kids i hi j).keep (fun _ _=>rfl) (Ov.none k (Zl _))
theorem iI.chkIn{t:T (m+1)}{env:jS M}{b:K (M+1)}{c:List (K (M+1))}(a:tq F M m w0 cb cs t c0 c1 c2 c3 c4 env n sv b skv)(h:iI F M w0 cb cs lb c0 c1 c2 c3 c4 sv skv pl p c kv xs w):Fs (Ov F Y Zn w) w cb p:=
 (a.rules.keep (h.near.same a.fz) fun _ h=>.inl h).chk h.chk
theorem iI.on{d:List (K (M+1))}(h:iI F M w0 cb cs lb c0 c1 c2 c3 c4 sv skv pl p d kv xs w)(e:Bd F w0)(c:Bw w V):iI F M w0 cb cs lb c0 c1 c2 c3 c4 sv skv pl p d kv xs V:=by
 have k:=c.size;have l:=h.near.size;refine⟨h.near.trans (.of_below c),(c.block cb (Array.getElem?_eq_some_iff.1 h.chk).1).trans h.chk,h.ge,(c.block lb h.lt).trans h.box,gg h.own fun g f=>c.block g (fR h.own g f).2,fun i hi j=>(h.kids i hi j).keep (fun b a=>?_) fun b a=>?_⟩
 ·refine c.block b ?_;rcases a with a|a;·have:=e b a;omega
  ·exact a.2.1
 ·rcases a with a|a;·exact .inl a
  ·exact .inr ⟨a.1,by have:=a.2.1;omega,a.2.2⟩
theorem iI.kid{e:Nat}{f:List (K (M+1))}(h:iI F M w0 cb cs lb c0 c1 c2 c3 c4 sv skv pl p f kv xs w)(j:∀b,F b->b<w0.heap.size/\b≠cb)(n:cb<w0.heap.size)(c:b7 cb w V)(l:V.heap[cb]?=Zo (mH cs e)):iI F M w0 cb cs lb c0 c1 c2 c3 c4 sv skv pl e f kv xs V:=by
 have o:=c.size;have q:=h.near.size;have m:=h.ge;refine⟨h.near.trans c,l,h.ge,(c.block lb h.lt om).trans h.box,gg h.own fun g d=>c.block g (fR h.own g d).2 (by have:=(fR h.own g d).1;omega),fun i hi k=>(h.kids i hi k).keep (fun b a=>?_) fun b a=>?_⟩
 ·rcases a with a|a;·have:=j b a;exact c.block b om this.2
  ·exact c.block b a.2.1 om
 ·rcases a with a|a;·exact .inl a
  ·exact .inr ⟨a.1,by have:=a.2.1;omega,a.2.2⟩
theorem iI.next {f:List (K (M+1))} {j:Zw} {x:K (M+1)} {g cap:Nat} {one:Obj} (h:iI F M w0 cb cs lb c0 c1 c2 c3 c4 sv skv pl p f kv xs w) (S:∀ b,F b->b<w0.heap.size/\b≠cb) (V:cb<w0.heap.size) (P:uC (Ov F (lb+1) kv.ownBlock w) w M x v)
  (n:j.ownsRow (lb+1) 82 1 (Zs (Zo ⟨g,0,Zn⟩) (f.length+1) cap) (f.length+1) (xs++[v])) (a:(w.alloc one).grownBy j kv.ownBlock) (o:kv.ownBlock=Zo g∨g=w.heap.size+1) :
  iI F M w0 cb cs lb c0 c1 c2 c3 c4 sv skv pl p (f++[x]) (Zs (Zo ⟨g,0,Zn⟩) (f.length+1) cap) (xs++[v]) (j.setCell ⟨lb,8,Zn⟩ (Zs (Zo ⟨g,0,Zn⟩) (f.length+1) cap)):=by
 have C:=h.lt;have Q:=h.ge;have X:=h.near.size;have D:=a.size;simp at D;have k:∀b,kv.ownBlock=Zo b->lb+1<=b/\b<w.heap.size:=fR h.own;have A:xs.length=f.length:=by simpa using h.own.1
 have s:∀b,b<w.heap.size->kv.ownBlock≠Zo b->j.heap[b]?=w.heap[b]?:=fun b d m=>by rw[a.block b zE (fun e=>m e.symm),Below.heap_alloc _ _ _ d]
 have r:∀b,kv.ownBlock≠Zo b->b<w.heap.size->(Value.slice (Zo ⟨g,0,Zn⟩) (f.length+1) cap).ownBlock≠Zo b:=by
  intro b R W e;have e:g=b:=by simpa [Value.ownBlock] using e
  rcases o with J|J;·exact R (by rw[J,e])
  ·omega
 have z:∀b,b≠lb->(j.setCell ⟨lb,8,Zn⟩ (Zs (Zo ⟨g,0,Zn⟩) (f.length+1) cap)).heap[b]?=j.heap[b]?:=fun b d=>Below.heap_setCell _ _ _ _ d;have L:(j.setCell ⟨lb,8,Zn⟩ (Zs (Zo ⟨g,0,Zn⟩) (f.length+1) cap)).heap.size=j.heap.size:=zS;have E:kv.ownBlock≠Zo lb:=fun e=>by have:=k lb e;omega
 have N:lb+1<=g:=by rcases o with e|e;exact (k g e).1;omega
 have G:cb<w.heap.size:=om;have H:kv.ownBlock≠Zo cb:=fun e=>by have:=k cb e;omega
 refine⟨⟨?_,?_,?_,om,fun b d m=>?_⟩,?_,h.ge,?_,?_,fun i hi O=>?_⟩;·show j.os=_;rw[a.os];exact h.near.os
 ·show j.tape=_;rw[a.tape];exact h.near.tape
 ·show j.output=_;rw[a.output];exact h.near.output
 ·rw[z b om,s b om (fun e=>by have:=k b e;omega)];exact h.near.block b d m
 ·rw[z cb om,s cb G H];exact h.chk
 ·have:j.heap[lb]?=_:=(s lb C E).trans h.box;simp[World.setCell,Array.getElem?_modify,this]
 ·rw[List.length_append];exact gg n fun I B=>z I (by have:g=I:=(by simpa [Value.ownBlock] using B);omega)
 ·have l:∀ {y:K (M+1)} {c:Zv},uC (Ov F (lb+1) kv.ownBlock w) w M y c->uC (Ov F (lb+1) (Value.slice (Zo ⟨g,0,Zn⟩) (f.length+1) cap).ownBlock (j.setCell ⟨lb,8,Zn⟩ (Zs (Zo ⟨g,0,Zn⟩) (f.length+1) cap))) (j.setCell ⟨lb,8,Zn⟩ (Zs (Zo ⟨g,0,Zn⟩) (f.length+1) cap)) M y c:=fun {y} {c} hy=>hy.keep (fun b d=>by
    rcases d with d|d
    ·have:=S b d;rw[z b om,s b om (fun e=>by have:=k b e;omega)]
    ·rw[z b (by have:=d.1;omega),s b d.2.1 d.2.2]) fun b d=>by
    rcases d with d|d
    ·exact .inl d
    ·exact .inr ⟨d.1,by have:=d.2.1;omega,r b d.2.2 d.2.1⟩
  by_cases u:i<f.length
  ·have q:i<xs.length:=by omega
   rw[List.getElem_append_left q,List.getElem_append_left u];exact l (h.kids i u q)
  ·have t:i=f.length:=by simp at hi;omega
   subst t;have U:(xs++[v])[f.length]=v:=by simp[<- A]
   have T:(f++[x])[f.length]=x:=zS;rw[U,T];exact l P
def Ft(F:Nat->Prop)(M:Nat)(w0:Zw)(a:Nat)(cs:Array Zv)(f:Nat)(c0 c1 c2 c3 c4 i b:Zv)(pl p g:Nat)(k:List (K (M+1)))(r:K (M+1)×Int×Nat)(c:Bool)(e:Ending)(w':Zw):Prop:=
 (r.2.1≠0/\b7 a w0 w' /\ ∃v d,e=Zr v/\mi d v r.2.1 r.2.2) ∨
 (r.2.1=0/\c=false/\b7 a w0 w' /\ e=Zr (nF 6 p)) ∨
 (r.2.1=0/\c=true/\e=Zr .nilIface/\∃h j,iI F M w0 a cs f c0 c1 c2 c3 c4 i b pl g (k++[r.1]) h j w')
theorem GO (F:Nat->Prop) (M m k j A c pl p p':Nat) (w0 w:Zw) (cs:Array Zv) (t:T (m+1)) (c0 c1 c2 c3 c4:Zv) (env ar:jS M) (n:Nat) (sv:Zv) (sk:K (M+1)) (z:Zv) (y:List (K (M+1))) (kv:Zv) (xs:List Zv) (r:K (M+1) × Int × Nat)
  (hf:tq F M m w0 A cs t c0 c1 c2 c3 c4 env n sv sk z) (s:iI F M w0 A cs c c0 c1 c2 c3 c4 sv z pl p y kv xs w) (hk:Nd.sort t=(k:Int)) (h1:1<=k) (h2:k<44) (hj:j<(Nd.kids t).length) (aN:k≠24->j<(lA k).length) (bJ:(Nd.kids t).length<=1000) (aw:y.length=j)
  (bi:Calls prog 132 #[Zp (Zo ⟨c,0,Zn⟩),Zi Zk (j:Int)] w.drew (l9 (Ov F (c+1) kv.ownBlock w.drew) M ar w.drew))
  (ag:∀(S:Nat->Prop)(V:Zw)(aa:Zv)(n':Nat)(d0 d1 d2 d3 d4:Zv),fZ S V m (Nd.kids t)[j] d0 d1 d2 d3 d4->gK S V M n' ar aa->(∀b,S b->b<V.heap.size/\b≠A)->nJ S V cs->V.heap[A]?=Zo (mH cs p)->A<V.heap.size ->
   Calls prog 41 #[Zp (Zo ⟨A,0,Zn⟩),Za #[d0,d1,d2,d3,d4],aa] V (qV S M r cs A p' V))
  (ao:r.2.1=0->j<(iC k).length->gV (M+1) r.1=true) (ah:∀q,(iC k).getD j .any=.like q->q<y.length/\gV (M+1) (y.getD q zU)=true) (ba:(iC k).getD j .any=.within->0<y.length/\gV (M+1) (y.getD 0 zU)=true/\Kd.sort (y.getD 0 zU)=6) (bp:(iC k).getD j .any=.sink->gV (M+1) sk=true) :
  Calls prog 85 #[Zp (Zo ⟨A,0,Zn⟩),Zp (Zo ⟨c,0,Zn⟩),Zi Zk (j:Int)] w (Ft F M w0 A cs c c0 c1 c2 c3 c4 sv z pl p p' y r (b9 (k:Int) sk j r.1 y)):=by
 have bM:=hf.rules.1;obtain⟨cd,cg⟩:=th bM s.chk;have bV:=s.ge;have bT:=s.lt;have ca:=s.near.size;have aU:=hf.cblt;obtain⟨q0,q1,q2,q3,q4,q5,q6,q7,q8⟩:=iD s.box;obtain⟨bq,-,-,-,-,-,-,aB,-,-⟩:=id hf.node;obtain⟨ka,kc,aR,-,bo⟩:=id aB;obtain⟨kb,ko,rfl,bK,aj⟩:=bo (by intro h;rw[h]at hj;simp at hj);obtain⟨z0,z1,z2,z3,z4,e0,e1,e2,e3,e4,aA⟩:=aj j hj;obtain⟨y0,y1,y2,ya,yl,yc,za,zl,zc,rfl,rfl,rfl,rfl,rfl⟩:=aA.shape;have u:=hf.fz kb bK;have g0:=s.near.cell e0 u.2;have g1:=s.near.cell e1 u.2;have g2:=s.near.cell e2 u.2;have g3:=s.near.cell e3 u.2;have g4:=s.near.cell e4 u.2;obtain⟨ln,bA⟩:=iw ((Nd.kids t).length);rw[<- bA]at aR hj bJ;rw[aR]at q4;have cc:(j:Int)<(ln:Int):=om;have bz:y.length<=j:=Nat.le_of_eq aw;have bE:j<=y.length:=Nat.le_of_eq aw.symm;obtain⟨va,vc,J⟩:=mX s.own;have aP:=fR s.own;have ay:Bw w w.drew:=(Below.refl _ _).drew;have G:Bd F w0:=fun b a=>(hf.fz b a).1;have aC:=a7 (s.on G ay);have Z:=a7 hf;have bl:Hid (Calls prog 132 #[Zp (Zo ⟨c,0,Zn⟩),Zi Zk (j:Int)] w.drew _):=bi;have ce:=a7 aA;have au:Hid (∀X:Zw,b7 A w X->X.cell? ⟨c,4,Zn⟩=Zo (Zs (Zo ⟨kb,ko,Zn⟩) ln kc)/\X.cell? ⟨kb,ko+j*5,Zn⟩=Zo (Zi Zk y0)/\X.cell? ⟨kb,ko+j*5+1,Zn⟩=Zo (Zi Zk y1)/\X.cell? ⟨kb,ko+j*5+2,Zn⟩=Zo (Zt y2)/\X.cell? ⟨kb,ko+j*5+3,Zn⟩=Zo (Zs ya yl yc)/\X.cell? ⟨kb,ko+j*5+4,Zn⟩=Zo (Zs za zl zc)):=fun X h=>⟨h.cell q4 om,h.cell g0 u.2,h.cell g1 u.2,h.cell g2 u.2,h.cell g3 u.2,h.cell g4 u.2⟩;have aZ:Hid (∀(V1:Zw)(aa:Zv)(n':Nat),Bw w V1->gK (Ov F (c+1) kv.ownBlock V1) V1 M n' ar aa->Calls prog 41 #[Zp (Zo ⟨A,0,Zn⟩),Za #[Zi Zk y0,Zi Zk y1,Zt y2,Zs ya yl yc,Zs za zl zc],aa] V1 fun e H=>b7 A w H/\((r.2.1=0/\∃v,e=Zr (Zu #[Zp v,.nilIface])/\uC (Ov F (c+1) kv.ownBlock H) H M r.1 (Zp v)/\iI F M w0 A cs c c0 c1 c2 c3 c4 sv z pl p' y kv xs H)∨(r.2.1≠0/\∃tt xx d,e=Zr (Zu #[Zp Zn,.iface tt xx])/\mi d (.iface tt xx) r.2.1 r.2.2))):=fun V1 aa n' Y P=>by
  have ak:=s.on G Y;have bY:=Y.size;have ae:=ak.near.same hf.fz;refine (ag (Ov F (c+1) kv.ownBlock V1) V1 aa n' _ _ _ _ _ (aA.keep ae fun _ h=>.inl h) P (fun b a=>?_) (hf.rules.keep ae fun _ h=>.inl h) ak.chk om).mono ?_
  ·rcases a with a|a;·have:=hf.fz b a;exact⟨om,this.2⟩
   ·exact⟨a.2.1,by have:=a.1;omega⟩
  rintro e H ⟨az,⟨E,v,rfl,al,bN⟩|⟨E,v,d,rfl,av⟩⟩
  ·have bv:b7 A w H:=(b7.of_below Y).trans az;obtain⟨vp,rfl⟩:=al.ptr;refine⟨bv,.inl ⟨E,vp,rfl,al.keep (fun _ _=>rfl) fun b a=>?_,ak.kid hf.fz aU az bN⟩⟩;rcases a with (a|a)|a;·exact .inl a
   ·exact .inr ⟨a.1,by have:=az.size;have:=a.2.1;omega,a.2.2⟩
   ·exact .inr ⟨by have:=a.1;omega,a.2.1,fun e=>by have:=aP b e;have:=a.1;omega⟩
  ·obtain⟨tt,xx,rfl⟩:=av.iface;exact⟨(b7.of_below Y).trans az,.inr ⟨E,tt,xx,d,rfl,av⟩⟩
 have bC:=a7 s.near;have bw:=a7 aP;have aY:=a7 ao;have aT:=a7 ah;have aS:=a7 ba;have aQ:=a7 bp;have aO:=GP (M:=M) k j h2 aN sk r.1 y;have ac:=a7 aO;generalize b9 (k:Int) sk j r.1 y=wb at *;have bG:=au.out w.drew (b7.of_below ay);have bn:c0=Zi Zk (k:Int):=by rw[bq,hk]
 clear e0 e1 e2 e3 e4 g0 g1 g2 g3 g4 q0 q1 q2 q3 q5 q6 q7 q8 aA aj bo aB ag bi s hf ao ah ba bp aP aO aR aN bq hk aw;go_in;go_upto_region 2 with fail;refine wp_region_held_drew (S:=fun w'=>w'.cell? ⟨c,4,Zn⟩=Zo (Zs (Zo ⟨kb,ko,Zn⟩) ln kc)/\w'.cell? ⟨kb,ko+j*5,Zn⟩=Zo (Zi Zk y0)/\w'.cell? ⟨kb,ko+j*5+1,Zn⟩=Zo (Zi Zk y1)/\w'.cell? ⟨kb,ko+j*5+2,Zn⟩=Zo (Zt y2)/\w'.cell? ⟨kb,ko+j*5+3,Zn⟩=Zo (Zs ya yl yc)/\w'.cell? ⟨kb,ko+j*5+4,Zn⟩=Zo (Zs za zl zc)) zK bG (fun hHeld=>?_);have bX:w.drew.heap.size=w.heap.size:=rfl;generalize w.drew=V at *;refine tk 0 ?_;refine tk 1 ?_;refine tk 2 ?_;refine tk 3 ?_;refine tk 4 ?_;refine tk 5 ?_;refine tk 6 ?_;refine tk 7 ?_;refine tk 8 ?_;refine tk 9 ?_;refine tk 10 ?_;refine iT 11 fun K hK=>?_;go_simp;go_at_call 132;refine bl.out.mono ?_;rintro e V1 ⟨Y,n1,bI,rfl,P⟩;have aD:=ay.trans (Y.mono ay.size);obtain⟨s1,rfl⟩:∃s1,bI=Zp s1:=by rcases P.ptr with ⟨-,rfl⟩|⟨sb,rfl,-⟩<;>exact⟨_,rfl⟩
 refine hK.out _ _ (au.out V1 (b7.of_below aD)) (fun hHeld=>?_);have bu:=Lib.hid (aZ.out V1 (Zp s1) n1 aD (P.keep (fun _ _=>rfl) fun b a=>by
  rcases a with (a|a)|a
  ·exact .inl a
  ·exact .inr ⟨a.1,by have:=Y.size;have:=a.2.1;omega,a.2.2⟩
  ·exact .inr ⟨by have:=a.1;omega,a.2.1,fun e=>by have:=bw.out b e;have:=a.1;omega⟩))
 clear hK K bl aZ P Y;refine iT 12 fun K hK=>?_;go_simp;go_at_call 41;refine bu.out.mono ?_;rintro e H ⟨ab,an⟩;obtain⟨rv,re,rfl⟩:∃rv re,e=Zr (Zu #[Zp rv,re]):=by rcases an with ⟨-,v,rfl,-⟩|⟨-,tt,xx,d,rfl,-⟩<;>exact⟨_,_,rfl⟩
 have af:=a7 an;refine hK.out _ _ (au.out H ab) (fun hHeld=>?_);clear hK K bu an;refine tk 13 ?_;refine tk 14 ?_;refine tk 15 ?_;refine tk 16 ?_;refine tk 17 ?_;refine wpAnyH_done zK ?_ _;go_simp;have aJ:=bC.out.trans ab;rcases af.out with ⟨E,v,o,al,aI⟩|⟨E,tt,xx,d,o,av⟩;case inr=>injection o with o;injection o with o;have o:=congrArg Array.toList o;simp only[List.cons.injEq,and_true]at o;obtain⟨-,rfl⟩:=o;have HP:Hid (Ft F M w0 A cs c c0 c1 c2 c3 c4 sv z pl p p' y r wb (Zr (.iface tt xx)) H):=.inl ⟨E,aJ,_,d,rfl,av⟩;clear af av au aC Z hHeld;go_wp2;go_ret;exact HP.out
 injection o with o;injection o with o;have o:=congrArg Array.toList o;simp only[List.cons.injEq,Value.pointer.injEq,and_true]at o;obtain⟨rfl,rfl⟩:=o;have bZ:=ab.size;have aW:Bw H H.drew:=(Below.refl _ _).drew;have Q:=aI.on G aW;have aF:uC (Ov F (c+1) kv.ownBlock H.drew) H.drew M r.1 (Zp rv):=al.keep (a6 aW fun b a=>by
  rcases a with a|a
  ·have:=G b a;omega
  ·exact a.2.1) fun _ h=>h
 clear af au hHeld al aI;obtain⟨wv,mv,bj,bB,aX,bL⟩:=(Z.out.rules.keep (Q.near.same Z.out.fz) fun _ h=>h).2 k h1 h2;obtain⟨wa,wc,rfl,-,bf⟩:=id aX;obtain⟨p0,p1,p2,p3,p4,p5,p6,p7,p8⟩:=iD Q.box;have a0:H.drew.cell? ⟨c,0,Zn⟩=Zo (Zi Zk (k:Int)):=by rw[p0,bn]
 have a1:H.drew.cell? ⟨A,1+k*2,Zn⟩=Zo (Zs wa (iC k).length wc):=pW Q.chk _ _ (by rw[Array.getElem?_push,if_neg om];exact bj);have bO:(k:Int)<44:=om;have R:=a7 Q;have ad:=a7 aF;have bg:=a7 aX;have aV:=a7 bf;clear p0 p1 p2 p3 p4 p5 p6 p7 bB bL bj Q aF aX bf aC;go_upto_region 5 with fail;refine wp_region_held_drew (S:=fun w'=>w'.cell? ⟨c,0,Zn⟩=Zo (Zi Zk (k:Int))/\w'.cell? ⟨A,1+k*2,Zn⟩=Zo (Zs wa (iC k).length wc)) zK ⟨a0,a1⟩ (fun hHeld=>?_);have bQ:H.heap.size<=H.drew.heap.size:=Zl _;generalize H.drew=W at *;refine tk 0 ?_;refine tk 1 ?_;refine tk 2 ?_;refine tk 3 ?_;refine tk 4 ?_;refine tk 5 ?_;refine tk 6 ?_;refine tk 7 ?_;refine tk 8 ?_;refine tk 9 ?_;refine tk 10 ?_;refine tk 11 ?_;refine wpAnyH_done zK ?_ _;go_simp;have bH:b7 A w0 W:=R.out.near;have bS:=R.out.lt;have cf:A<W.heap.size:=om;obtain⟨i0,bd,aH,aL,aG⟩:=info_parts Tryz.info_pk;have HI:Hid (_/\_/\_/\_):=⟨bd,aH,aL,aG⟩;clear bd aH aL aG a0 a1 hHeld ab aJ aW;by_cases ai:j<(iC k).length;case neg=>
  have bk:wb=true:=by rw[ac.out,List.getD_eq_getElem?_getD,List.getElem?_eq_none om];rfl
  have bW:¬(j:Int)<((iC k).length:Int):=om;clear aY aV bg ac aT aS aQ;generalize (iC k).length=wl at *;have D:Bw W W:=Below.refl _ _;have l:=R.out.on G D;have L:uC (Ov F (c+1) kv.ownBlock W) W M r.1 (Zp rv):=ad.out.keep (a6 D fun b a=>by
   rcases a with a|a
   ·have:=G b a;omega
   ·exact a.2.1) fun b a=>by
   rcases a with a|a
   ·exact .inl a
   ·exact .inr ⟨a.1,by have:=D.size;have:=a.2.1;omega,a.2.2⟩
  have x8:=(iD l.box).2.2.2.2.2.2.2.2;have bD:=D.size;have I:=a7 l;have N:=a7 L;have HO:Hid (W.ownsRow (c+1) 82 1 (Zs va y.length vc) y.length xs):=by have:=l.own;rw[J]at this;exact this
  rw[J]at x8;have U:=a7 l.box;clear l L R ad;go_wp2_with (at_builtin;refine wpList_append_lies _ rfl (.tmp 66) (.tmp 68) 116 rfl (c+1) 82 i0 _ 1 8 underlying116 HI.out.1 HI.out.2.1 HI.out.2.2.1 HI.out.2.2.2 rfl zC (Zs va y.length vc) y.length xs rfl (HO.out.alloc _) ⟨W.heap.size,0,Zn⟩ 1 1 [Zp rv] rfl rfl (World.news_of_block (heap_alloc_new W _)) (by simp[Value.oneCell']) zC (by unfold maxLen;omega) om zE (W.heap.size+1) zS ?_;intro g cap w3 C i O bh;refine Hid.out ?_);refine Lib.hid ?_;have ax:=fR HO.out;have B:w3.heap[c]?=Zo (Zc #[c0,c1,c2,c3,c4,Zi Zk (pl:Int),sv,z,kv] 144 (0,0)):=((i.block c zE (fun e=>by have:=ax c e.symm;omega)).trans (Below.heap_alloc _ _ _ om)).trans U.out;have bx:=(iD B).2.2.2.2.2.2.2.2;have bF:w3.frozen? ⟨c,8,Zn⟩=false:=by simp[World.frozen?,B]
  have HN:Hid (iI F M w0 A cs c c0 c1 c2 c3 c4 sv z pl p' (y++[r.1]) _ _ _):=I.out.next (x:=r.1) Z.out.fz aU N.out C (by rw[J];exact i) (by rw[J];exact O);have HP:Hid (Ft F M w0 A cs c c0 c1 c2 c3 c4 sv z pl p p' y r wb (Zr .nilIface) (w3.setCell ⟨c,8,Zn⟩ (Zs (Zo ⟨g,0,Zn⟩) (y.length+1) cap))):=.inr (.inr ⟨E,bk,rfl,_,_,HN.out⟩);clear C i O B HN I N U HO;go_wp2;go_ret;exact HP.out
 obtain⟨ub,uo,rfl,bP,be⟩:=aV.out (by intro h;rw[h]at ai;simp at ai);obtain⟨f,bU,bc⟩:=be j ai;have aq:(iC k).getD j .any=(iC k)[j]:=gr ai;have aK:=aY.out E ai;have am:=ad.out.ok aK;have bt:=R.out.look Z.out om (Zl (c+1));obtain⟨nb,rfl,-⟩:∃nb,rv=Zo ⟨nb,0,Zn⟩/\True:=by obtain⟨b,e,-⟩:=am.ptr;injection e with e;exact⟨b,e,trivial⟩
 have br:∀b,Ov F (c+1) Zn W b->b<W.heap.size:=Ov.lt (fun b a=>by have:=G b a;omega) om;have aM:=CU bt br om (bc.keep (fun _ _=>rfl) fun _ h=>.inl h) (am.keep (fun _ _=>rfl) Ov.less) aK (fun q e=>aT.out q (by rw[aq];exact e)) (fun e=>aS.out (by rw[aq];exact e)) (fun e=>aQ.out (by rw[aq];exact e));rw[<- aq,<- ac.out]at aM;obtain⟨fn,bm,rfl,eg,ap⟩:=aM;have bb:Hid (∀args:Array Zv,args=#[Zp (Zo ⟨c,0,Zn⟩),Zp (Zo ⟨nb,0,Zn⟩)]++bm->Calls prog fn args W _):=ap;have bR:(j:Int)<((iC k).length:Int):=om;clear ap bt am bc be aq ac aV bg aY aT aS aQ;generalize (iC k).length=wl at *;go_wp2_with fail;refine (bb.out _ (by first|rfl|simp)).mono ?_;rintro e X ⟨rfl,D⟩;clear bb;cases wb with
 | false=>have HP:Hid (Ft F M w0 A cs c c0 c1 c2 c3 c4 sv z pl p p' y r false (Zr (nF 6 p)) X):=.inr (.inl ⟨E,rfl,bH.trans (.of_below D),rfl⟩);unfold nF at HP;clear R ad Z;go_wp2;go_ret;exact HP.out
 | true=>
  have l:=R.out.on G D;have L:uC (Ov F (c+1) kv.ownBlock X) X M r.1 (Zp (Zo ⟨nb,0,Zn⟩)):=ad.out.keep (a6 D fun b a=>by
   rcases a with a|a
   ·have:=G b a;omega
   ·exact a.2.1) fun b a=>by
   rcases a with a|a
   ·exact .inl a
   ·exact .inr ⟨a.1,by have:=D.size;have:=a.2.1;omega,a.2.2⟩
  have x8:=(iD l.box).2.2.2.2.2.2.2.2;have bD:=D.size;have I:=a7 l;have N:=a7 L;have HO:Hid (X.ownsRow (c+1) 82 1 (Zs va y.length vc) y.length xs):=by have:=l.own;rw[J]at this;exact this
  rw[J]at x8;have U:=a7 l.box;clear l L R ad;go_wp2_with (at_builtin;refine wpList_append_lies _ rfl (.tmp 66) (.tmp 68) 116 rfl (c+1) 82 i0 _ 1 8 underlying116 HI.out.1 HI.out.2.1 HI.out.2.2.1 HI.out.2.2.2 rfl zC (Zs va y.length vc) y.length xs rfl (HO.out.alloc _) ⟨X.heap.size,0,Zn⟩ 1 1 [Zp (Zo ⟨nb,0,Zn⟩)] rfl rfl (World.news_of_block (heap_alloc_new X _)) (by simp[Value.oneCell']) zC (by unfold maxLen;omega) om zE (X.heap.size+1) zS ?_;intro g cap w3 C i O bh;refine Hid.out ?_);refine Lib.hid ?_;have ax:=fR HO.out;have B:w3.heap[c]?=Zo (Zc #[c0,c1,c2,c3,c4,Zi Zk (pl:Int),sv,z,kv] 144 (0,0)):=((i.block c zE (fun e=>by have:=ax c e.symm;omega)).trans (Below.heap_alloc _ _ _ om)).trans U.out;have bx:=(iD B).2.2.2.2.2.2.2.2;have bF:w3.frozen? ⟨c,8,Zn⟩=false:=by simp[World.frozen?,B]
  have HN:Hid (iI F M w0 A cs c c0 c1 c2 c3 c4 sv z pl p' (y++[r.1]) _ _ _):=I.out.next (x:=r.1) Z.out.fz aU N.out C (by rw[J];exact i) (by rw[J];exact O);have HP:Hid (Ft F M w0 A cs c c0 c1 c2 c3 c4 sv z pl p p' y r true (Zr .nilIface) (w3.setCell ⟨c,8,Zn⟩ (Zs (Zo ⟨g,0,Zn⟩) (y.length+1) cap))):=.inr (.inr ⟨E,rfl,rfl,_,_,HN.out⟩);clear C i O B HN I N U HO;go_wp2;go_ret;exact HP.out
theorem DU:∀k,k<44->∀j,j<4->∀q,q<4->(iC k).getD j .any=.like q->q<j:=by decide
theorem Af:∀k,k<44->∀j,j<4->(match (iC k).getD j .any with|.like q=>decide (q<4)|_=>true)=true:=by decide
theorem CI:∀k,k<44->(iC k).length<4:=by decide
theorem Gu:∀k,k<44->∀j,j<4->(iC k).getD j .any=.within->k=31/\j=1:=by decide
theorem G7:∀k,k<36->∀j,j<4->(iC k).getD j .any≠.sink:=by decide
theorem tu(a:k<44)(b:4<=j):(iC k).getD j .any=.any:=by have:=CI k a;rw[List.getD_eq_getElem?_getD,List.getElem?_eq_none om];rfl
theorem zP(a:k<44)(h:(iC k).getD j .any=.like q):q<j:=by
 by_cases b:j<4;·have c:=Af k a j b;rw[h]at c;exact DU k a j b q (by simpa using c) h
 ·rw[tu a om]at h;cases h
theorem Ae(a:k<44)(h:(iC k).getD j .any=.within):k=31/\j=1:=by
 by_cases b:j<4;·exact Gu k a j b h
 ·rw[tu a om]at h;cases h
theorem DT(b:k<36)(h:(iC k).getD j .any=.sink):False:=by
 by_cases a:j<4;·exact G7 k b j a h
 ·rw[tu om om]at h;cases h
theorem EU{op:Int}{names:List ByteArray}{i:Nat}{b:List (K (M+1))}{env:jS M}(f:∀p,p∈env->gV (M+1) p.2=true)(j:∀x,x∈b->gV (M+1) x=true)(hi:b.length=i)(d:tw op names i b):∀p,p∈mu op names i b env->gV (M+1) p.2=true:=by
 have g:0<b.length->gV (M+1) (b.getD 0 zU)=true:=fun h=>by rw[gr h];exact j _ (Zg h)
 have m:1<b.length->gV (M+1) (b.getD 1 zU)=true:=fun h=>by rw[gr h];exact j _ (Zg h)
 have c:∀k:K (M+1),gV (M+1) k=true->Kd.sort k=4∨Kd.sort k=6->gV (M+1) (mN k)=true:=fun k ok n=>by
  obtain⟨x,l⟩:=vL ok n;have e:mN k=fQ M M x:=by unfold mN;rw[l]
  rw[e];exact pE (pn ok x (by rw[l];simp))
 intro p a;unfold mu at a;split at a
 ·next hc=>
  rcases List.mem_cons.1 a with rfl|a;·exact g om
  ·exact f p a
 ·split at a
  ·next hc=>
   rcases List.mem_cons.1 a with rfl|a
   ·refine c _ (g om) ?_;rcases hc.1 with h|h|h|h;·exact .inr (d.may h hc.2)
    ·exact .inl (d.lst (.inl h) hc.2)
    ·exact .inl (d.lst (.inr (.inl h)) hc.2)
    ·exact .inl (d.lst (.inr (.inr h)) hc.2)
   ·exact f p a
  ·split at a
   ·next hc=>
    rcases List.mem_cons.1 a with rfl|a;·exact c _ (g om) (.inl (d.fld hc.1 hc.2))
    ·rcases List.mem_cons.1 a with rfl|a;·exact m om
     ·exact f p a
   ·exact f p a
theorem iI.at {t:T (m+1)} {env:jS M} {sk:K (M+1)} {f:List (K (M+1))} (O:tq F M m w0 cb cs t c0 c1 c2 c3 c4 env n sv sk skv) (h:iI F M w0 cb cs lb c0 c1 c2 c3 c4 sv skv pl p f kv xs w) (i:Nat) (hi:f.length=i) (j:tw (Nd.sort t) (Nd.names t) i f) (G:∀ x,x∈f->gV (M+1) x=true) :
  Calls prog 132 #[Zp (Zo ⟨lb,0,Zn⟩),Zi Zk (i:Int)] w (l9 (Ov F (lb+1) kv.ownBlock w) M (mu (Nd.sort t) (Nd.names t) i f env) w):=by
 have hs:=h.near.same O.fz;have ae:=h.lt;have ac:=h.near.size;have ab:=h.ge;have N:∀b,Ov F (lb+1) kv.ownBlock w b->b<w.heap.size:=Ov.lt (fun b j=>by have:=(O.fz b j).1;omega) om;have r:gK (Ov F (lb+1) kv.ownBlock w) w M n env sv:=O.scope.keep hs fun _ h=>.inl h;obtain⟨o,q1,q2,R,q4,q5,P,q7,S⟩:=iD h.box;obtain⟨X,-,-,-,-,-,Q,-⟩:=id O.node;rw[X]at o;have J:fL (Ov F (lb+1) kv.ownBlock w) w (Nd.names t) c3:=Q.keep hs fun _ h=>.inl h;have e:∀q,q<f.length->∃g cap k,kv=Zs (Zo ⟨g,0,Zn⟩) f.length cap/\w.cell? ⟨g,0+q,Zn⟩=Zo (Zp (Zo ⟨k,0,Zn⟩))/\d8 (Ov F (lb+1) kv.ownBlock w) w (M+1) (f.getD q zU) (Zp (Zo ⟨k,0,Zn⟩))/\gV (M+1) (f.getD q zU)=true:=fun q s=>by
  have ad:xs.length=f.length:=by simpa using h.own.1
  have v:=(h.kids q s om).ok (G _ (Zg s));obtain⟨k,B,-⟩:=id v.ptr;rcases h.own.2 with ⟨-,h0⟩|⟨g,cap,af,I,-⟩;·omega
  ·have D:=h.own.cells (g:=g) (by rw[I];rfl) q xs[q] zS;rw[Addr.add_lit,B]at D;rw[B]at v;rw[gr s];exact⟨g,cap,k,I,D,v,G _ (Zg s)⟩
 have c:∀q,q<(Nd.names t).length->∃l o cap,c3=Zs (Zo ⟨l,o,Zn⟩) (Nd.names t).length cap/\w.cell? ⟨l,o+q,Zn⟩=Zo (Zt ((Nd.names t).getD q ByteArray.empty))/\((Nd.names t).getD q ByteArray.empty).size<=maxLen:=fun q s=>by obtain⟨l,o,cap,hv,-,E⟩:=ld J N om;rw[gr s];exact⟨l,o,cap,hv,(E q s).1,(E q s).2⟩
 unfold mu;split
 ·next hc=>
  obtain⟨a,rfl⟩:=hc;obtain⟨l,H,d,A,C,L⟩:=c 0 (by have:=j.one om;omega);obtain⟨g,cap,k,f1,f2,f3,f4⟩:=e 0 om;have u:=j.one om;exact xK _ M n env (Nd.sort t) lb sv l H ((Nd.names t).length-1) d g 0 (f.length-1) cap k _ _ w N r o P (by rw[Nat.sub_add_cancel u,R,A]) (by simpa using C) (by rw[Nat.sub_add_cancel om,S,f1]) (by simpa using f2) L f3 a
 ·next hn1=>
  split
  ·next hc=>
   obtain⟨a,rfl⟩:=hc;have u:=j.one om;obtain⟨l,H,d,A,C,L⟩:=c 0 om;obtain⟨g,cap,k,f1,f2,f3,f4⟩:=e 0 om;refine AF _ M n env (Nd.sort t) lb sv l H ((Nd.names t).length-1) d g 0 (f.length-1) cap k _ _ w N r o P (by rw[Nat.sub_add_cancel u,R,A]) (by simpa using C) (by rw[Nat.sub_add_cancel om,S,f1]) (by simpa using f2) L f3 f4 a ?_;rcases a with h|h|h|h;·exact .inr (j.may h rfl)
   ·exact .inl (j.lst (.inl h) rfl)
   ·exact .inl (j.lst (.inr (.inl h)) rfl)
   ·exact .inl (j.lst (.inr (.inr h)) rfl)
  ·next hn2=>
   split
   ·next hc=>
    obtain⟨a,rfl⟩:=hc;have Y:=j.two a;obtain⟨l,H,d,A,C,L⟩:=c 0 om;obtain⟨p1,r1,W,y,e5,e6⟩:=c 1 om;obtain⟨g,cap,k,f1,f2,f3,f4⟩:=e 0 om;obtain⟨g',aa,yb,z,f6,f7,f8⟩:=e 1 om;rw[A]at y;injection y with y _ _;injection y with y;injection y with U Z;subst U;subst Z;rw[f1]at z;injection z with z _ _;injection z with z;injection z with V;subst V;exact vI _ M n env (Nd.sort t) lb sv l H ((Nd.names t).length-2) d g 0 (f.length-2) cap k yb _ _ _ _ w N r a (by rw[o,a]) P (by rw[Nat.sub_add_cancel Y,R,A]) (by simpa using C) (by rw[Nat.sub_add_cancel om,S,f1]) (by simpa using f2) e5 f6 L e6 f3 f4 (j.fld a rfl) f7
   ·next hn3=>
    refine Bt _ M n env (Nd.sort t) i lb sv w r o P ?_;unfold GZ;split;·omega
    ·split;·omega
     ·omega
def rf:Option Md->Nat
 | some (.inl (_,p+2))=>p+1
 | some (.inr (p+7))=>p+1
 | some (.inr 1)=>1
 | some (.inr 2)=>2
 | some (.inr 3)=>1
 | some (.inr 5)=>1
 | _=>0
def BF:Option Md->Bool
 | some (.inl (s,0))=>decide (s=1∨s=2∨s=3)
 | some (.inl (s,1))=>decide (s=4∨s=6)
 | some (.inl (s,_+2))=>decide (s=4∨s=6)
 | _=>true
theorem F5:∀k,k<36->rf (je k)<=(lA k).length:=by decide
theorem FQ:∀k,k<44->BF (je k)=true:=by decide
theorem CF:∀k,k<44->je k=Zo .bound->k=4:=by decide
theorem uO:∀k,k<44->je k=Zo .field->k=21:=by decide
theorem xq:∀k,k<44->je k=Zo .put->k=22:=by decide
theorem BX:∀k,k<44->je k=Zo .cut->k=23:=by decide
theorem Fi:∀k,k<44->je k=Zo .form->k=24:=by decide
theorem A1:∀k,k<44->je k=Zo .within->k=25:=by decide
theorem E5:∀k,k<44->(match je k with|Zo (.inl (_,1))=>decide (k=5∨k=6)|_=>true)=true:=by decide
theorem Hh{t:T (m+1)}{b:List (K (M+1))}(r:Nd.sort t=(k:Int))(q:k<=35)(i:pX t)(j:Aq (Nd.sort t) (Nd.names t) (Nd.text t) b)(n:∀x,x∈b->gV (M+1) x=true)(c:b.length=(Nd.kids t).length)(e:b.length<=1000):xw (je k) (Nd.names t) (Nd.text t) b:=by
 have u:rf (je k)<=b.length:=by
  by_cases o:k=24;·subst o;exact Nat.zero_le _
  ·have:=i.cnt om;rw[c,this,r];exact F5 k om
 have f:∀ {d},je k=d->rf d<=b.length:=fun h=>h ▸ u;refine⟨n,e,fun h=>?_,fun s h=>?_,fun s p h=>?_,fun p h=>?_,fun h=>?_,fun h=>?_,fun h=>?_⟩
 ·rcases h with h|h;·have:=CF k om h;obtain⟨a,l,g⟩:=i.free om;rw[l];exact⟨zS,g⟩
  ·obtain⟨a,l,g,-⟩:=i.fld (by
    rcases h with h|h|h
    ·have:=uO k om h;omega
    ·have:=xq k om h;omega
    ·have:=BX k om h;omega)
   rw[l];exact⟨zS,g⟩
 ·have:=E5 k om;rw[h]at this;have:k=5∨k=6:=by simpa using this
  exact j.kind om
 ·have:=f h;simp only[rf]at this;omega
 ·have:=f h;simp only[rf]at this;omega
 ·refine⟨?_,j.form ?_⟩;·rcases h with h|h|h<;>(have:=f h;simp only[rf]at this;omega)
  ·rcases h with h|h|h;·have:=uO k om h;omega
   ·have:=xq k om h;omega
   ·have:=BX k om h;omega
 ·have:=f h;simp only[rf]at this;omega
 ·refine⟨by have:=f h;simp only[rf]at this;omega,j.lst ?_⟩;have:=A1 k om h;omega
theorem Ic{t:T (m+1)}{env:jS M}{f:List (K (M+1))}(q:Nd.sort t=(k:Int))(j:k<=35)(d:pX t)(c:∀p,p∈env->gV (M+1) p.2=true)(e:f.length=(Nd.kids t).length):Fa (je k) (Nd.names t) env f:=by
 have b:=FQ k om;refine⟨fun s h=>?_,fun s h=>?_,fun s p h=>?_,c,fun h=>?_,fun h=>?_⟩;·rw[h]at b;simpa [BF] using b
 ·rw[h]at b;simpa [BF] using b
 ·rw[h]at b;simpa [BF] using b
 ·obtain⟨a,n,-,l⟩:=d.fld (by have:=xq k om h;omega);rw[n];exact l
 ·obtain⟨o,g⟩:=d.frm (by have:=Fi k om h;omega);refine⟨om,?_⟩;unfold gW iQ;rw[ZC];intro i hi;have:=g i (List.mem_range.1 hi);unfold kA at this;rw[Bool.and_eq_true]at this;exact this.1
def E3(M m:Nat):Prop:=∀(F:Nat->Prop)(t:T m)(c0 c1 c2 c3 c4:Zv)(env:jS M)(n:Nat)(e:Zv)(d:Int)(c a:Nat)(cs:Array Zv)(w:Zw),fZ F w m t c0 c1 c2 c3 c4->gK F w M n env e->(∀b,F b->b<w.heap.size/\b≠a)->a<w.heap.size->nJ F w cs->w.heap[a]?=Zo (mH cs c)->gD m t d=true->pU m t<=35->(∀p,p∈env->gV (M+1) p.2=true)->c+fJ m t<=1000 ->
 Calls prog 41 #[Zp (Zo ⟨a,0,Zn⟩),Za #[c0,c1,c2,c3,c4],e] w (qV F M (jQ [] m t env c) cs a (c+fJ m t) w)
theorem yH{d:Nat}{c:Int}(op:Int)(h:mi d v c p):mi (d+1) (.iface 151 (Za #[Zi Zk op,v])) c p:=.inr ⟨op,v,rfl,h⟩
theorem xI(l:List (T m))(j pl:Nat)(h:j<l.length):gp l (j+1) pl=gp l j pl+fJ m l[j]:=by unfold gp;rw[fY _ _ _ h];omega
theorem Aa(M m:Nat)(hM:5<=M)(hn:E3 M m):E3 M (m+1):=by
 intro F t c0 c1 c2 c3 c4 env n sv d a p cs w ht au hB bx az bg hg z ar aL;have z:Nd.sort t<=35:=z;simp only[gD,Bool.and_eq_true,decide_eq_true_eq,ZC]at hg;obtain⟨⟨bR,hj⟩,aZ⟩:=hg;have aj:=E0 hj z;obtain⟨k,hk⟩:∃k:Nat,Nd.sort t=(k:Int):=⟨(Nd.sort t).toNat,by have:=aj.lo;omega⟩;have bb:1<=k:=by have:=aj.lo;omega
 have aa:k<=35:=om;have E:=ht;obtain⟨aX,rfl,rfl,hs,bX,cc,h3,h4,⟨na,nl,nc,rfl,bZ⟩,⟨ka,kl,kc,rfl,bW⟩⟩:=ht;rw[hk]at aX;subst aX;obtain⟨_,_,bH,-⟩:=id h3;cases bH
 obtain⟨_,_,bh,-⟩:=id h4;cases bh
 obtain⟨so,rfl⟩:∃so,sv=Zp so:=by rcases au.ptr with ⟨-,rfl⟩|⟨sb,rfl,-⟩<;>exact⟨_,rfl⟩
 have Z:fJ (m+1) t=1+b5 (fun x=>fJ m x) (Nd.kids t):=rfl;have aU:=ou (Nd.kids t);have ac:gp (Nd.kids t) (Nd.kids t).length a=a+fJ (m+1) t:=by unfold gp;rw[List.take_length,Z];omega
 have aW:(Nd.kids t).length<=1000:=om;obtain⟨f,X⟩:∃W,W=w.alloc (Zc #[Zi Zk (k:Int),Zi Zk (Nd.num t),Zt (Nd.text t),Zs na (Nd.names t).length nc,Zs ka (Nd.kids t).length kc] 40):=⟨_,rfl⟩;have aE:Bw w f:=by rw[X];exact gF _ _
 have aN:f.heap.size=w.heap.size+1:=by rw[X];simp
 have aD:f.heap[w.heap.size]?=Zo (Zc #[Zi Zk (k:Int),Zi Zk (Nd.num t),Zt (Nd.text t),Zs na (Nd.names t).length nc,Zs ka (Nd.kids t).length kc] 40 (0,0)):=by rw[X];exact heap_alloc_new _ _
 have bJ:Bd F w:=fun b hb=>(hB b hb).1;have ah:=a6 aE bJ;have hf:tq F M m f p cs t (Zi Zk (k:Int)) (Zi Zk (Nd.num t)) (Zt (Nd.text t)) (Zs na (Nd.names t).length nc) (Zs ka (Nd.kids t).length kc) env n (Zp so) zU (Zp Zn):=
  ⟨fun b hb=>⟨by have:=(hB b hb).1;omega,(hB b hb).2⟩,om,az.keep ah fun _ h=>h,E.keep ah fun _ h=>h,au.keep ah fun _ h=>h,.inr ⟨rfl,rfl⟩⟩
 have af:f.heap[p]?=Zo (mH cs a):=(aE.block p bx).trans bg;obtain⟨W2,J⟩:∃W,W=(f.alloc (Zc #[Zi Zk (k:Int),Zi Zk (Nd.num t),Zt (Nd.text t),Zs na (Nd.names t).length nc,Zs ka (Nd.kids t).length kc,Zi Zk (a:Int),Zp so,Zp Zn,Zs Zn 0 0] 144)).drew:=⟨_,rfl⟩;have y:Bw f W2:=by rw[J];exact (gF _ _).drew
 have bq:f.heap.size+1<=W2.heap.size:=by rw[J];show _<=(f.alloc _).heap.size;simp
 have aM:W2.heap[f.heap.size]?=Zo (Zc #[Zi Zk (k:Int),Zi Zk (Nd.num t),Zt (Nd.text t),Zs na (Nd.names t).length nc,Zs ka (Nd.kids t).length kc,Zi Zk (a:Int),Zp so,Zp Zn,Zs Zn 0 0] 144 (0,0)):=by rw[J];exact heap_alloc_new f _
 have aF:=az.1;have ab:W2.heap[p]?=Zo (mH cs a):=(y.block p om).trans af;have bd:((a+1:Nat):Int)=(a:Int)+1:=om;have al:∀p0,p0=a+1->iI F M f p cs f.heap.size (Zi Zk (k:Int)) (Zi Zk (Nd.num t)) (Zt (Nd.text t)) (Zs na (Nd.names t).length nc) (Zs ka (Nd.kids t).length kc) (Zp so) (Zp Zn) a p0 [] (Zs Zn 0 0) [] (W2.setCell ⟨p,89,Zn⟩ (Zi Zk ((a:Int)+1))):=by rintro _ rfl;rw[<- bd];exact⟨(b7.of_below y).trans (b7.set p 89 _ _),H1 aF ab,Zl _,(Below.heap_setCell _ _ _ _ (by show f.heap.size≠p;omega)).trans aM,World.ownsRow_nil _ _ _ _,fun i h=>absurd h (Nat.not_lt_zero _)⟩
 obtain⟨bu,bL⟩:=th aF ab;obtain⟨bc,-⟩:=th aF af;have L:=a7 hf;have N:=a7 aj;have bD:=a7 aZ;have ao:=a7 ar;have s:Hid (∀V,b7 p f V->b7 p w V/\V.cell? ⟨w.heap.size,0,Zn⟩=Zo (Zi Zk (k:Int))):=fun V hV=>⟨(b7.of_below aE).trans hV,hV.cell (gE aD).1 om⟩;have aH:=a7 (al (gp (Nd.kids t) 0 a) (by unfold gp;simp[b5]));obtain⟨g0,g1,g2,g3,g4⟩:=gE aD;have C:w.heap.size<f.heap.size:=om;have aY:p<f.heap.size:=om;have ak:∀V,Bw f V->V.cell? ⟨w.heap.size,0,Zn⟩=Zo (Zi Zk (k:Int))/\V.cell? ⟨w.heap.size,1,Zn⟩=Zo (Zi Zk (Nd.num t))/\V.cell? ⟨w.heap.size,2,Zn⟩=Zo (Zt (Nd.text t))/\V.cell? ⟨w.heap.size,3,Zn⟩=Zo (Zs na (Nd.names t).length nc)/\V.cell? ⟨w.heap.size,4,Zn⟩=Zo (Zs ka (Nd.kids t).length kc)/\V.cell? ⟨p,89,Zn⟩=Zo (Zi Zk (a:Int)):=fun V h=>⟨kC h g0 C,kC h g1 C,kC h g2 C,kC h g3 C,kC h g4 C,kC h bc aY⟩;have bo:=a7 ak;have aT:=ak W2 y;have aq:=a7 (ak f.drew (Below.refl _ _).drew);have aO:¬(k:Int)=38:=om;have aP:¬(k:Int)=39:=om;have bO:((k:Int)==38)=false:=by simpa using aO
 have bN:((k:Int)==39)=false:=by simpa using aP
 have bU:¬k=38:=om;have bM:¬k=39:=om;have cd:=a7 E;have br:=a7 ac;have bm:=a7 aL;have bn:=a7 Z;have bP:(a:Int)+1<2000:=om;have bQ:(0:Int)<=(a:Int):=om;have bS:w.heap.size+1<=f.heap.size:=Nat.le_of_eq aN.symm;clear aN;clear E au az bg aj aZ ar hj hf al af ab aD aM y g0 g1 g2 g3 g4 ak h3 h4 ah Z ac aL aU bd;go_in;go_upto_region 1 with fail;rw[<- X];refine wp_region_held_drew (S:=fun w'=>w'.cell? ⟨w.heap.size,0,Zn⟩=Zo (Zi Zk (k:Int))/\w'.cell? ⟨w.heap.size,1,Zn⟩=Zo (Zi Zk (Nd.num t))/\w'.cell? ⟨w.heap.size,2,Zn⟩=Zo (Zt (Nd.text t))/\w'.cell? ⟨w.heap.size,3,Zn⟩=Zo (Zs na (Nd.names t).length nc)/\w'.cell? ⟨w.heap.size,4,Zn⟩=Zo (Zs ka (Nd.kids t).length kc)/\w'.cell? ⟨p,89,Zn⟩=Zo (Zi Zk (a:Int))) zK aq.out (fun hHeld=>?_);clear X;have bp:f.heap.size<=f.drew.heap.size:=Zl _;refine tk 0 ?_;refine tk 1 ?_;refine tk 2 ?_;refine tk 3 ?_;refine tk 4 ?_;refine tk 5 ?_;refine tk 6 ?_;refine iT 7 fun K hK=>?_;go_simp;refine hK.out _ _ (by rw[<- J];exact aT) (fun hHeld=>?_);clear hK K;rw[<- J];clear J;refine tk 8 ?_;refine wpAnyH_done zK ?_ _;go_simp;obtain⟨r0,r1,r2,r3,r4,r5⟩:=aT;clear hHeld;go_wp2_with fail;clear r0 r1 r2 r3 r4 r5 bu bL bo aq bc bp bq;go_loopw [54] (fun iv wr=>∃(j:Nat)(B:List (K (M+1)))(kv:Zv)(xs:List Zv),iv=Zi Zk j/\j<=(Nd.kids t).length/\xo [] m t env a j B/\(∀x,x∈B->gV (M+1) x=true)/\iI F M f p cs f.heap.size (Zi Zk (k:Int)) (Zi Zk (Nd.num t)) (Zt (Nd.text t)) (Zs na (Nd.names t).length nc) (Zs ka (Nd.kids t).length kc) (Zp so) (Zp Zn) a (gp (Nd.kids t) j a) B kv xs wr) (fun iv _=>(Nd.kids t).length-(intOf iv).toNat);case atStart=>exact⟨0,[],_,_,rfl,Nat.zero_le _,xo.start _ _ _ _ _,fun x h=>(by cases h),aH.out⟩
 case round=>
  obtain⟨j,B,kv,xs,rfl,bV,aA,an,ba⟩:=hrel;have ag:=aA.len;have H:=a7 aA;have u:=a7 an;have Q:=a7 ba;clear aA an ba;by_cases g:j<(Nd.kids t).length
  ·have A:=sJ (N.out.kid j g);have aV:1<=m:=by
    have h1:=A.1;cases m with
    | zero=>exact absurd h1 (by show ¬(1:Int)<=0;omega)
    | succ m=>omega
   obtain⟨r,hr⟩:=iw (nL [] m t env a j B (Nd.kids t)[j]);have HR:=a7 hr;have ay:=N.out.bindOk z H.out;have U:=EU ao.out u.out ag ay;have ad:=bD.out _ (Zg g);have bA:gp (Nd.kids t) j a+fJ m (Nd.kids t)[j]<=1000:=by have h1:=oL (Nd.kids t) (j+1);rw[fY _ _ _ g]at h1;have:=bm.out;have:=bn.out;unfold gp;omega
   have bf:=GO F M m k j p f.heap.size a (gp (Nd.kids t) j a) (gp (Nd.kids t) (j+1) a) f wr cs t _ _ _ _ _ env (mu (Nd.sort t) (Nd.names t) j B env) n _ zU _ B kv xs r L.out Q.out hk bb om g (fun bY=>by have:=N.out.cnt om;rw[hk,Int.toNat_natCast]at this;omega) aW ag
    ((Q.out.on (fun b hb=>(L.out.fz b hb).1) ((Below.refl _ _).drew)).at L.out j ag ay u.out)
    (fun S V bC n' d0 d1 d2 d3 d4 g1 g2 g3 g4 g5 g6=>by
     have:=hn S (Nd.kids t)[j] d0 d1 d2 d3 d4 _ n' bC (d+1) (gp (Nd.kids t) j a) p cs V g1 g2 g3 g6 g4 g5 ad A.2 U bA
     rw[<- xI _ _ _ g]at this
     rw[hr]
     exact this)
    (fun l _=>by rw[hr]at l ⊢;exact pw (M:=M) hM (sn:=[]) A.2 l aV)
    (fun q h=>by
     have:=zP om h
     exact⟨om,by rw[gr om];exact u.out _ (Zg _)⟩)
    (fun h=>by
     obtain⟨bE,ca⟩:=Ae om h
     have hw:=oJ H.out 0 om
     rw[hk,bE]at hw
     exact⟨om,by rw[gr om];exact u.out _ (Zg _),by simpa [b9] using hw⟩)
    (fun h=>(DT om h).elim)
   have aC:(ly ([]:wD M) (show Nd (T m) from t)).getD zU=zU:=by unfold ly;split<;>rfl
   have I:=a7 bf;have bt:(j:Int)<((Nd.kids t).length:Int):=om;have aI:¬r.2.1=0->jQ [] (m+1) t env a=(zU,r.2):=fun l=>by
    have h1:jx [] m t env a=([],r.2):=by have:=H.out.bad g (by rw[<- HR.out];exact l);rw[<- HR.out]at this;exact this
    rw[lm z,h1];exact if_pos l
   have aQ:r.2.1=0->b9 (k:Int) zU j r.1 B=false->jQ [] (m+1) t env a=(zU,6,gp (Nd.kids t) j a):=fun l hw=>by have h1:jx [] m t env a=([],6,gp (Nd.kids t) j a):=H.out.wrong g (by rw[<- HR.out];exact l) (by rw[aC,hk,<- HR.out];exact hw);rw[lm z,h1];exact if_pos (show (6:Int)≠0 by decide)
   have aJ:r.2.1=0->b9 (k:Int) zU j r.1 B=true->xo [] m t env a (j+1) (B++[r.1]):=fun l hw=>by have:=H.out.next g (by rw[<- HR.out];exact l) (by rw[aC,hk,<- HR.out];exact hw);rw[<- HR.out]at this;exact this
   have aK:r.2.1=0->gV (M+1) r.1=true:=fun l=>by rw[hr]at l ⊢;exact pw (M:=M) hM (sn:=[]) A.2 l aV
   have bi:=a7 aI;have bI:=a7 aQ;have bG:=a7 aJ;have bv:=a7 aK;clear aI aQ aJ aK bf aC hr ay U ad;generalize b9 (k:Int) zU j r.1 B=wb at *;go_wp2_with fail;refine I.out.mono ?_;rintro e G (⟨l,o,v,dd,rfl,ae⟩|⟨l,bj,o,rfl⟩|⟨l,bw,rfl,bF,bz,ap⟩)
   ·obtain⟨tt,xx,rfl⟩:=ae.iface;have aw:=bi.out l;have R:=l;clear I;have HP:Hid (qV F M (jQ [] (m+1) t env a) cs p (a+fJ (m+1) t) w (Zr (Zu #[Zp Zn,.iface 151 (Za #[Zi Zk (k:Int),.iface tt xx])])) G.drew):=by show qV _ _ _ _ _ _ _ _ _;rw[aw];exact⟨(s.out G o).1.drew,.inr ⟨R,_,_,rfl,yH (k:Int) ae⟩⟩
    have z0:G.drew.cell? ⟨w.heap.size,0,Zn⟩=Zo (Zi Zk (k:Int)):=(s.out G o).2;go_upto_region 12 with fail;refine wp_region_held_drew (S:=fun w'=>w'.cell? ⟨w.heap.size,0,Zn⟩=Zo (Zi Zk (k:Int))) zK z0 (fun hHeld=>?_);generalize G.drew=Y at *;refine tk 0 ?_;refine tk 1 ?_;refine tk 2 ?_;refine tk 3 ?_;refine tk 4 ?_;refine tk 5 ?_;refine tk 6 ?_;refine wpAnyH_done zK ?_ _;go_simp;go_wp2_with fail;refine bodyPost_ret (by simp[results,results41,go_sem];rfl) rfl ?_;exact HP.out
   ·have ae:mi 0 (nF 6 (gp (Nd.kids t) j a:Nat)) 6 (gp (Nd.kids t) j a):=rfl;have aw:=bI.out l bj;have R:((6:Int))≠0:=zC;obtain⟨tt,xx,O⟩:∃tt xx,nF 6 (gp (Nd.kids t) j a:Nat)=.iface tt xx:=⟨_,_,rfl⟩;rw[O]at ae;rw[O];clear O I;have HP:Hid (qV F M (jQ [] (m+1) t env a) cs p (a+fJ (m+1) t) w (Zr (Zu #[Zp Zn,.iface 151 (Za #[Zi Zk (k:Int),.iface tt xx])])) G.drew):=by show qV _ _ _ _ _ _ _ _ _;rw[aw];exact⟨(s.out G o).1.drew,.inr ⟨R,_,_,rfl,yH (k:Int) ae⟩⟩
    have z0:G.drew.cell? ⟨w.heap.size,0,Zn⟩=Zo (Zi Zk (k:Int)):=(s.out G o).2;go_upto_region 12 with fail;refine wp_region_held_drew (S:=fun w'=>w'.cell? ⟨w.heap.size,0,Zn⟩=Zo (Zi Zk (k:Int))) zK z0 (fun hHeld=>?_);generalize G.drew=Y at *;refine tk 0 ?_;refine tk 1 ?_;refine tk 2 ?_;refine tk 3 ?_;refine tk 4 ?_;refine tk 5 ?_;refine tk 6 ?_;refine wpAnyH_done zK ?_ _;go_simp;go_wp2_with fail;refine bodyPost_ret (by simp[results,results41,go_sem];rfl) rfl ?_;exact HP.out
   ·have bB:=a7 (bG.out l bw);have HO:=a7 (bv.out l);have be:=a7 ap;clear ap Q I;go_wp2;go_roundw;case rel=>
     refine⟨j+1,B++[r.1],bF,bz,by go_num,om,bB.out,fun x D=>?_,be.out⟩;rcases List.mem_append.1 D with D|D;·exact u.out x D
     ·rw[List.mem_singleton]at D;subst D;exact HO.out
    case measure=>simp[intOf];omega
  ·have av:j=(Nd.kids t).length:=by omega
   have P:=Q.out;have aB:=P.near;have bT:=P.lt;have bk:=aB.size;have ai:jQ [] (m+1) t env a=mg (show Nd (T m) from t) env B a:=by rw[lm z,H.out.done av];exact if_neg zS
   have aS:=N.out.comeOk z aW H.out av;have ax:=Lib.hid (CP (Ov F f.heap.size Zn wr) M m k p f.heap.size _ a hM t env zU B wr (Ov.lt (fun b hb=>(L.out.fz b hb).1) bk) (P.chkIn L.out) (P.look L.out om (Nat.le_succ _)) hk bb aa (Hh hk aa N.out aS u.out om om) (Ic hk aa N.out ao.out om));have am:=P.chk;have bK:Hid ((mg (show Nd (T m) from t) env B a).2.1=0->gV (M+1) (mg (show Nd (T m) from t) env B a).1=true):=fun h=>by have:=pw (M:=M) hM (sn:=[]) (t:=t) (env:=env) (pl:=a) (m:=m+1) z (by rw[ai];exact h) om;rw[ai]at this;exact this
   have bt:¬(j:Int)<((Nd.kids t).length:Int):=om;generalize mg (show Nd (T m) from t) env B a=mr at *;have aG:=a7 ai;clear aS ai P Q;have bl:gp (Nd.kids t) j a=a+fJ (m+1) t:=by rw[av];exact br.out
   rw[bl]at am;go_wp2_with fail;refine ax.out.mono ?_;rintro e G ⟨y,⟨l,b,rfl,aR⟩|⟨l,rfl⟩⟩
   ·have HP:Hid (qV F M mr cs p (a+fJ (m+1) t) w (Zr (Zu #[Zp (Zo ⟨b,0,Zn⟩),.nilIface])) G):=
     ⟨(s.out G (aB.trans (.of_below y))).1,.inl ⟨l,_,rfl,.inl ⟨bK.out l,aR.keep (fun _ _=>rfl) fun x D=>by
      have:=y.size
      rcases D with (D|D)|D
      ·exact .inl D
      ·exact .inr ⟨by have:=D.1;omega,by have:=D.2.1;omega,zS⟩
      ·exact .inr ⟨by have:=D.1;omega,D.2.1,zS⟩⟩,(y.block p om).trans am⟩⟩
    clear ax aR;go_wp2_with fail;refine bodyPost_ret (by simp[results,results41,go_sem];rfl) rfl ?_;rw[aG.out];exact HP.out
   ·have HP:Hid (qV F M mr cs p (a+fJ (m+1) t) w (Zr (Zu #[Zp Zn,nF mr.2.1 mr.2.2])) G):=
     ⟨(s.out G (aB.trans (.of_below y))).1,.inr ⟨l,_,0,rfl,rfl⟩⟩
    obtain⟨tt,xx,O⟩:∃tt xx,nF mr.2.1 (mr.2.2:Nat)=.iface tt xx:=⟨_,_,rfl⟩;rw[O]at HP ⊢;clear ax O;go_wp2_with fail;refine bodyPost_ret (by simp[results,results41,go_sem];rfl) rfl ?_;rw[aG.out];exact HP.out
theorem DJ(M:Nat)(b:5<=M):∀m,E3 M m:=by
 intro m;induction m with
 | zero=>intro F t c0 c1 c2 c3 c4 env n e d g f cs w a;exact a.elim
 | succ m c=>exact Aa M m b c
end Go.Proofs.YtcfojmaccikgeaaGreatDoor
namespace Go.Proofs.YtcfojmaccikgeaaGreatDoor
set_option maxRecDepth 100000
set_option maxHeartbeats 16000000
open Go.RowKit Go.WideMaps Go.Maps Go.Proofs.Tryz
variable {α:Type}
def BT(S:Nat->Prop)(M:Nat){n:Nat}(l:List (ByteArray×K n))(w:Zw)(e:Ending)(w':Zw):Prop:=
 Bw w w' /\ ((l.all mj=true/\∃a,e=Zr (Zu #[Zp (Zo ⟨a,0,Zn⟩),Zb true])/\gK (Ov S w.heap.size Zn w') w' M 1 (jo M l).reverse (Zp (Zo ⟨a,0,Zn⟩)))∨(l.all mj=false/\e=Zr (Zu #[Zp Zn,Zb false])))
theorem Fb(l:List α)(i:Nat)(h:i<l.length):(l.take (i+1)).reverse=l[i] :: (l.take i).reverse:=by rw[ZA h,List.reverse_append];rfl
theorem Ed{p:α->Bool}{l:List α}(i:Nat)(h:i<l.length):(l.take (i+1)).all p=((l.take i).all p && p l[i]):=by rw[ZA h,List.all_append];simp
theorem Hd{p:α->Bool}{l:List α}(i:Nat)(h:i<l.length)(b:p l[i]=false):l.all p=false:=by rw[Bool.eq_false_iff];intro a;have:=ZC.1 a _ (Zg h);rw[b]at this;cases this
theorem rJ (S:Nat->Prop) (M n:Nat) (hM:5<=M) (l:List (ByteArray × K n)) (v:Zv) (w:Zw) (hv:gM S w n l v) (hB:Bd S w) (hl:l.length<=1048576) :
  Calls prog 39 #[v] w (BT S M l w):=by
 have aF:∀(w:Zw),(Instr.makeMap 129 Zn).run prog w=.ok (.map (Zo w.heap.size)) (w.alloc (.map #[] 0)):=by intro w;simp[Instr.makeMap,go_sem]
 obtain⟨ao,cap,rfl,aK,F⟩:=id hv;obtain⟨U,u⟩:∃W,W=(w.alloc (.map #[] 0)).alloc (Zc #[Zp Zn,.map (Zo w.heap.size)] 131):=⟨_,rfl⟩;have an:Bw w U:=by rw[u];exact (gF _ _).alloc zS _
 have ah:w.heap.size+2<=U.heap.size:=by rw[u];simp
 have am:U.heap[w.heap.size+1]?=Zo (Zc #[Zp Zn,.map (Zo w.heap.size)] 131 (0,0)):=by have:=heap_alloc_new (w.alloc (.map #[] 0)) (Zc #[Zp Zn,.map (Zo w.heap.size)] 131);rw[u];simpa using this
 have aj:U.ownsMap prog 9 tF w.heap.size 0 (lU []):=by rw[u];exact (World.ownsMap_made w prog 9 tF).alloc _
 have N:Hid (U.ownsMap prog 9 tF w.heap.size 0 (lU [])/\U.heap[w.heap.size+1]?=Zo (Zc #[Zp Zn,.map (Zo w.heap.size)] 131 (0,0))/\Bw w U/\w.heap.size+2<=U.heap.size):=⟨aj,am,an,ah⟩;have HV:=a7 hv;have ae:=a7 F;clear aj am an ah hv F;go_in;go_wp2_with fail;rw[<- u];clear u;go_loopw [14] (fun iv wr=>∃(i:Nat)(bs:List (ByteArray×Nat)),iv=Zi Zk i/\i<=l.length/\(l.take i).all mj=true/\wr.ownsMap prog 9 tF w.heap.size i (lU bs)/\wr.heap[w.heap.size+1]?=Zo (Zc #[Zp Zn,.map (Zo w.heap.size)] 131 (0,0))/\Bw w wr/\w.heap.size+2<=wr.heap.size/\pD (Ov S (w.heap.size+2) Zn wr) wr M ((jo M l).take i).reverse bs) (fun iv _=>l.length-(intOf iv).toNat);case atStart=>exact⟨0,[],rfl,Nat.zero_le _,rfl,N.out.1,N.out.2.1,N.out.2.2.1,N.out.2.2.2,trivial⟩
 case round=>
  obtain⟨i,bs,rfl,aJ,R,Q,ak,g,aI,al⟩:=hrel;have T:=a7 R;have P:=a7 Q;have aa:=a7 ak;have af:=a7 al;have aH:=g.size;clear R Q ak al;by_cases y:i<l.length
  ·obtain⟨b,off,rfl,ap,D⟩:=ae.out (by intro h;rw[h]at y;simp at y);obtain⟨k0,k1,k2,e0,e1,e2,e3,X,ac⟩:=D i y;obtain⟨y0,ya,yl,yc,za,zl,zc,rfl,rfl,rfl⟩:=ac.shape;have J:=hB b ap;have f0:=kC g e0 J;have f1:=kC g e1 J;have f2:=kC g e2 J;have f3:=kC g e3 J;have aG:(i:Int)<(l.length:Int):=om;obtain⟨s,hs⟩:=iw l[i].1;rw[<- hs]at f0 X;obtain⟨W2,A⟩:∃W,W=wr.alloc (Zc #[Zt s,Zi Zk y0,Zs ya yl yc,Zs za zl zc] 70):=⟨_,rfl⟩;have m:Bw wr W2:=by rw[A];exact gF _ _
   have aE:wr.heap.size+1<=W2.heap.size:=by rw[A];simp
   have ag:W2.heap[wr.heap.size]?=Zo (Zc #[Zt s,Zi Zk y0,Zs ya yl yc,Zs za zl zc] 70 (0,0)):=by rw[A];exact heap_alloc_new _ _
   have q:=g.trans (m.mono g.size);have HC:Hid (Calls prog 80 #[Za #[Zi Zk y0,Zs ya yl yc,Zs za zl zc]] W2 _):=o7 n S l[i].2 _ _ _ W2 (ac.keep (a6 q hB) fun _ h=>h) (fun b c=>Nat.lt_of_lt_of_le (hB b c) q.size);obtain⟨p0,p1,p2,p3⟩:=kP ag;have L:Hid (gV n l[i].2=true->gh s=true->mj l[i]=true):=fun h1 h2=>by unfold mj;rw[h1,<- hs,h2];rfl
   have E:Hid (gV n l[i].2=false∨gh s=false->l.all mj=false):=fun h=>Hd i y (by
    unfold mj
    rcases h with h|h
    ·rw[h];simp
    ·rw[<- hs,h];simp)
   have au:Hid (∀V,Bw W2 V->V.cell? ⟨w.heap.size+1,1,Zn⟩=Zo (.map (Zo w.heap.size))/\V.cell? ⟨wr.heap.size,0,Zn⟩=Zo (Zt s)):=fun V hV=>⟨kC hV ((m.cell (p:=⟨w.heap.size+1,1,Zn⟩) (by show w.heap.size+1<_;omega)).trans (oG aa.out).2) om,kC hV p0 om⟩;have ax:(l[i].1,l[i].2)=l[i]:=rfl;generalize ad:l[i].2=kk at *;have av:=a7 ad;have Hs:=a7 hs;clear D e0 e1 e2 e3 ac ag ad ax hs;go_wp2_with fail;rw[<- A];clear A;refine HC.out.mono ?_;rintro e H ⟨r,⟨I,kv,rfl,C⟩|⟨I,rfl⟩⟩
   ·obtain⟨kb,rfl,-⟩:=id C.ptr;have aL:=r.size;have j:=q.trans (r.mono q.size);obtain⟨a0,a1⟩:=au.out H r;have x:=Lib.hid (k6 s H X);cases hnb:gh s with
    | false=>rw[hnb]at x;have HP:Hid (BT S M l w (Zr (Zu #[Zp Zn,Zb false])) H):=⟨j,.inr ⟨E.out (.inr hnb),rfl⟩⟩;clear HC C hnb L E;go_wp2_with fail;refine x.out.mono ?_;rintro e z ⟨rfl,rfl⟩;clear x;go_wp2_with fail;refine bodyPost_ret (by simp[results,results39,go_sem];rfl) rfl ?_;exact HP.out
    | true=>
     rw[hnb]at x;have aw:=L.out I hnb;have B:H.drew.ownsMap prog 9 tF w.heap.size i (lU bs):=by obtain⟨es,Y,h1,h2⟩:=P.out;exact⟨es,Y,((m.trans (r.mono m.size)).block w.heap.size om).trans h1,h2⟩
     obtain⟨z,aC,G,f⟩:=B.update (t:=129) (e:=82) Tryz.skeyed underlying129 (by unfold maxLen;omega) (keyOf_string_mk underlying9 X) (val:=Zp (Zo ⟨kb,0,Zn⟩)) (d:=.lit (.int Zk (kb:Int))) (ps:=[]) rfl;have ai:=f.size;have aD:H.heap.size<=z.heap.size:=ai;have O:∀b,b<H.heap.size->b≠w.heap.size->z.heap[b]?=H.heap[b]?:=fun b c aA=>f.block b c (fun e=>aA (by injection e));have hrel:(l.take (i+1)).all mj=true/\z.ownsMap prog 9 tF w.heap.size (i+1) (lU ((s,kb) :: bs))/\z.heap[w.heap.size+1]?=Zo (Zc #[Zp Zn,.map (Zo w.heap.size)] 131 (0,0))/\Bw w z/\w.heap.size+2<=z.heap.size/\pD (Ov S (w.heap.size+2) Zn z) z M ((jo M l).take (i+1)).reverse ((s,kb) :: bs):=by
      refine⟨by rw[Ed i y,T.out,aw];rfl,G,?_,?_,om,?_⟩;·rw[O _ om om];exact ((m.trans (r.mono m.size)).block _ om).trans aa.out
      ·exact⟨f.os.trans j.os,f.tape.trans j.tape,f.output.trans j.output,om,fun b c=>(O b om om).trans (j.block b c)⟩
      ·have ab:i<(jo M l).length:=by unfold jo;rw[List.length_map];exact y
       rw[Fb _ _ ab];have ar:(jo M l)[i]=(s,fQ M n kk):=by have:(jo M l)[i]=(l[i].1,fQ M n l[i].2):=List.getElem_map ..;rw[this,<- Hs.out,av.out]
       rw[ar];refine⟨rfl,?_,af.out.keep (fun b c=>?_) fun b c=>?_⟩
       ·refine (d8.okd I hM C).keep (fun b c=>?_) fun b c=>?_
        ·rcases c with c|c;·exact O b (by have:=hB b c;omega) (by have:=hB b c;omega)
         ·exact O b c.2 (by have:=c.1;omega)
        ·rcases c with c|c;·exact .inl c
         ·exact .inr ⟨by have:=c.1;omega,by have:=c.2;omega,zS⟩
       ·rcases c with c|c;·have:=hB b c;exact (O b om om).trans ((m.trans (r.mono m.size)).block b om)
        ·exact (O b (by have:=c.2.1;omega) (by have:=c.1;omega)).trans ((m.trans (r.mono m.size)).block b c.2.1)
       ·rcases c with c|c;·exact .inl c
        ·exact .inr ⟨c.1,by have:=c.2.1;omega,zS⟩
     have o:=a7 hrel;have az:H.drew.cell? ⟨w.heap.size+1,1,Zn⟩=Zo (.map (Zo w.heap.size)):=a0;have aq:H.drew.cell? ⟨wr.heap.size,0,Zn⟩=Zo (Zt s):=a1;have aB:z.cell? ⟨w.heap.size+1,1,Zn⟩=Zo (.map (Zo w.heap.size)):=(oG hrel.2.2.1).2;have ay:z.cell? ⟨wr.heap.size,0,Zn⟩=Zo (Zt s):=(World.cell?_of_block (a:=⟨wr.heap.size,0,Zn⟩) (O wr.heap.size om om)).trans a1;clear HC C hnb L E hrel G f B O;go_wp2_with fail;refine x.out.mono ?_;rintro e w4 ⟨rfl,rfl⟩;clear x;go_upto_region 8 with fail;refine wp_region_held_drew (S:=fun w'=>w'.cell? ⟨w.heap.size+1,1,Zn⟩=Zo (.map (Zo w.heap.size))/\w'.cell? ⟨wr.heap.size,0,Zn⟩=Zo (Zt s)) zK ⟨az,aq⟩ (fun hHeld=>?_);generalize w4.drew=V at *;refine tk 0 ?_;refine tk 1 ?_;refine tk 2 ?_;refine tk 3 ?_;refine tk 4 ?_;refine tk 5 ?_;refine tk 6 ?_;refine iT 7 fun K hK=>?_;go_simp;refine hK.out _ _ ⟨aB,ay⟩ (fun hHeld=>?_);clear hK K;refine wpAnyH_done zK ?_ _;go_simp;go_wp2;go_roundw;case rel=>exact⟨i+1,(s,kb) :: bs,by go_num,om,o.out.1,o.out.2.1,o.out.2.2.1,o.out.2.2.2.1,o.out.2.2.2.2.1,o.out.2.2.2.2.2⟩
     case measure=>simp[intOf];omega
   ·have j:=q.trans (r.mono q.size);have HP:Hid (BT S M l w (Zr (Zu #[Zp Zn,Zb false])) H):=⟨j,.inr ⟨E.out (.inl I),rfl⟩⟩;clear HC L E;go_wp2_with fail;refine bodyPost_ret (by simp[results,results39,go_sem];rfl) rfl ?_;exact HP.out
  ·have Z:i=l.length:=by omega
   have C:¬(i:Int)<(l.length:Int):=om;have HP:Hid (BT S M l w (Zr (Zu #[Zp (Zo ⟨w.heap.size+1,0,Zn⟩),Zb true])) wr):=by
    have h1:=T.out;have h2:=af.out;have ab:(jo M l).length=l.length:=List.length_map ..;rw[Z,List.take_length]at h1;rw[Z,<- ab,List.take_length]at h2;refine⟨g,.inl ⟨h1,_,rfl,w.heap.size+1,Zn,.map (Zo w.heap.size),(jo M l).reverse,[],zS,rfl,.inr ⟨om,om,zS⟩,aa.out,fun a h=>(by cases h),⟨w.heap.size,bs,i,rfl,.inr ⟨Zl _,om,zS⟩,P.out,h2.keep (fun _ _=>rfl) fun b c=>?_⟩,rfl,rfl⟩⟩;rcases c with c|c;·exact .inl c
    ·exact .inr ⟨by have:=c.1;omega,c.2.1,zS⟩
   clear ae HV Z;go_wp2_with fail;refine bodyPost_ret (by simp[results,results39,go_sem];rfl) rfl ?_;exact HP.out
end Go.Proofs.YtcfojmaccikgeaaGreatDoor
