import Derived.Test.YtcfojmaccikgeaaGreatDoorB36
import Derived.Test.YtcfojmaccikgeaaGreatDoorB24
import Derived.Test.YtcfojmaccikgeaaGreatDoorB12
import Derived.Test.YtcfojmaccikgeaaGreatDoorB13
import Derived.Test.YtcfojmaccikgeaaGreatDoorB20
open Go.Value renaming slice→Zs,int→Zi,string→Zt,pointer→Zp,tuple→Zu
open Go.IntKind renaming i64→Zk
open Go.Ending renaming returned→Zr
open Go.Obj renaming cells→Zc
open Option renaming none→Zn,some→Zo
open Go renaming World→Zw,Value→Zv
namespace Go.Proofs.YtcfojmaccikgeaaGreatDoor
open Go.RowKit Go.Proofs.Tryz
set_option maxRecDepth 100000
set_option maxHeartbeats 16000000
variable {S S':Nat->Prop} {w V w':Zw} {n M b:Nat} {c f:Zv}
def gZ(S:Nat->Prop)(M:Nat)(k:K (M+2))(c:Int)(w:Zw)(e:Ending)(w':Zw):Prop:=
 Bw w w' /\ ((c=0/\∃b,e=Zr (Zu #[Zp (Zo ⟨b,0,Zn⟩),Zi Zk 0])/\d8 (Ov S w.heap.size Zn w') w' (M+2) k (Zp (Zo ⟨b,0,Zn⟩)))∨(c≠0/\e=Zr (Zu #[Zp Zn,Zi Zk c])))
def j8(S:Nat->Prop)(n:Nat)(k:K n)(w:Zw)(e:Ending)(w':Zw):Prop:=
 Bw w w' /\ ∃b,e=Zr (Zp (Zo ⟨b,0,Zn⟩))/\d8 (Ov S w.heap.size Zn w') w' n k (Zp (Zo ⟨b,0,Zn⟩))
theorem tf(S:Nat->Prop)(w:Zw)(n:Nat)(s:Int)(a:s≠5):d8 (Ov S w.heap.size Zn (w.alloc (Zc #[Zi Zk s,Zs Zn 0 0,.map Zn,Zs Zn 0 0] 118))) (w.alloc (Zc #[Zi Zk s,Zs Zn 0 0,.map Zn,Zs Zn 0 0] 118)) (n+1) (iz s) (Zp (Zo ⟨w.heap.size,0,Zn⟩)):=
 ⟨w.heap.size,_,_,_,rfl,.inr ⟨Nat.le_refl _,zS,zS⟩,heap_alloc_new _ _,⟨Zn,0,rfl,by show (0:Nat)<=maxLen;unfold maxLen;omega,fun s h=>(by cases h),fun h=>absurd rfl h⟩,fun h=>absurd h a,⟨Zn,0,rfl,by show (0:Nat)<=maxLen;unfold maxLen;omega,fun h=>absurd rfl h⟩⟩
theorem D9(S:Nat->Prop)(M:Nat)(lo:Option Addr)(a:Nat)(s:Int)(w:Zw)(d:w.cell? ⟨a,0,Zn⟩=Zo (Zi Zk s))(b:s≠5):Calls prog 154 #[Zp lo,Zp (Zo ⟨a,0,Zn⟩)] w (gZ S M (iz s) 0 w):=by have c:Hid (gZ S M (iz s) 0 w (Zr (Zu #[Zp (Zo ⟨w.heap.size,0,Zn⟩),Zi Zk 0])) (w.alloc (Zc #[Zi Zk s,Zs Zn 0 0,.map Zn,Zs Zn 0 0] 118))):=⟨gF _ _,.inl ⟨rfl,_,rfl,tf S w (M+1) s b⟩⟩;go_in;go_wp2_with fail;refine bodyPost_ret (by simp[results,results154,go_sem];rfl) rfl ?_;exact c.out
theorem DR {b:Nat} {k:K n} (s:Int) (c:s≠5) (g:d8 S w n k (Zp (Zo ⟨b,0,Zn⟩))) (f:Bd S w) (W:Zw) (a:W=(w.alloc (Zc #[Zp (Zo ⟨b,0,Zn⟩)] 82)).alloc (Zc #[Zi Zk s,Zs Zn 0 0,.map Zn,Zs (Zo ⟨w.heap.size,0,Zn⟩) 1 1] 118)) :
  d8 (Ov S w.heap.size Zn W) W (n+1) (⟨s,[],[k]⟩:Kd (K n)) (Zp (Zo ⟨w.heap.size+1,0,Zn⟩)):=by
 have j:Bw w W:=by rw[a];exact (gF _ _).alloc zS _
 have l:W.heap.size=w.heap.size+2:=by rw[a];simp
 have e:W.heap[w.heap.size]?=Zo (Zc #[Zp (Zo ⟨b,0,Zn⟩)] 82 (0,0)):=by rw[a,Below.heap_alloc _ _ _ zS];exact heap_alloc_new _ _
 have d:W.heap[w.heap.size+1]?=Zo (Zc #[Zi Zk s,Zs Zn 0 0,.map Zn,Zs (Zo ⟨w.heap.size,0,Zn⟩) 1 1] 118 (0,0)):=by have:=heap_alloc_new (w.alloc (Zc #[Zp (Zo ⟨b,0,Zn⟩)] 82)) (Zc #[Zi Zk s,Zs Zn 0 0,.map Zn,Zs (Zo ⟨w.heap.size,0,Zn⟩) 1 1] 118);rw[a];simpa using this
 refine⟨_,_,_,_,rfl,.inr ⟨om,om,zS⟩,d,⟨Zn,0,rfl,by show (0:Nat)<=maxLen;unfold maxLen;omega,fun s h=>(by cases h),fun h=>absurd rfl h⟩,fun h=>absurd h c,⟨Zo ⟨w.heap.size,0,Zn⟩,1,rfl,by show (1:Nat)<=maxLen;unfold maxLen;omega,fun _=>⟨w.heap.size,0,rfl,.inr ⟨Nat.le_refl _,om,zS⟩,fun i hi=>?_⟩⟩⟩;have:i=0:=by simpa using hi
 subst this;exact⟨_,by simp[World.cell?,e],g.keep (a6 j f) fun _ h=>.inl h⟩
theorem lu(S:Nat->Prop)(n a:Nat)(k:K n)(s:Int)(w:Zw)(d:s≠5)(c:d8 S w n k (Zp (Zo ⟨a,0,Zn⟩)))(b:Bd S w):Calls prog 158 #[Zi Zk s,Zp (Zo ⟨a,0,Zn⟩)] w (j8 S (n+1) (⟨s,[],[k]⟩:Kd (K n)) w):=by
 have e:Hid (j8 S (n+1) (⟨s,[],[k]⟩:Kd (K n)) w (Zr (Zp (Zo ⟨w.heap.size+1,0,Zn⟩))) ((w.alloc (Zc #[Zp (Zo ⟨a,0,Zn⟩)] 82)).alloc (Zc #[Zi Zk s,Zs Zn 0 0,.map Zn,Zs (Zo ⟨w.heap.size,0,Zn⟩) 1 1] 118))):=
  ⟨(gF _ _).alloc zS _,_,rfl,DR s d c b _ rfl⟩
 clear c b;go_in;go_wp2;go_ret;exact e.out
theorem j8.make{k:K (M+2)}{w1:Zw}{e:Ending}(d:Bw w V)(h:j8 (Ov S w.heap.size Zn V) (M+2) k V e w1)(a:e=Zr (Zp (Zo ⟨b,0,Zn⟩))):gZ S M k 0 w (Zr (Zu #[Zp (Zo ⟨b,0,Zn⟩),Zi Zk 0])) w1:=by
 obtain⟨f,i,rfl,g⟩:=h;injection a with a;injection a with a;injection a with a;injection a with a;subst a;have:=d.size;exact⟨d.trans (f.mono d.size),.inl ⟨rfl,_,rfl,g.keep (fun _ _=>rfl) fun x c=>by
  rcases c with (c|c)|c
  ·exact .inl c
  ·exact .inr ⟨c.1,by have:=f.size;omega,zS⟩
  ·exact .inr ⟨om,c.2.1,zS⟩⟩⟩
theorem qZ{k:K n}{v:Zv}(b:Bw w V)(a:Bd S w)(h:d8 S w n k v):d8 (Ov S w.heap.size Zn V) V n k v:=h.keep (a6 b a) fun _ h=>.inl h
theorem wF (S:Nat->Prop) (M:Nat) (k:K (M+1)) (s:Int) (j g o d cap i c l m:Nat) (w:Zw) (p:Bd S w) (H:s≠5) (v:w.cell? ⟨l,0,Zn⟩=Zo (Zi Zk s)) (B:w.cell? ⟨j,8,Zn⟩=Zo (Zs (Zo ⟨g,o,Zn⟩) d cap)) (y:w.cell? ⟨m,0,Zn⟩=Zo (Zi Zk (i:Int))) (C:w.cell? ⟨g,o+i,Zn⟩=Zo (Zp (Zo ⟨c,0,Zn⟩))) (hi:i<d) (_hln:d<=1000) (A:d8 S w (M+1) k (Zp (Zo ⟨c,0,Zn⟩))) :
  Calls prog 159 #[Zp (Zo ⟨j,0,Zn⟩),Zp (Zo ⟨l,0,Zn⟩),Zp (Zo ⟨m,0,Zn⟩)] w (gZ S M (kj s k) 0 w):=by have h:Bw w w.drew:=(Below.refl _ _).drew;have x:Hid (Calls prog 158 #[Zi Zk s,Zp (Zo ⟨c,0,Zn⟩)] w.drew _):=lu (Ov S w.heap.size Zn w.drew) (M+1) c k s w.drew H (qZ h p A) (Ov.lt p (Nat.le_refl _));have F:(i:Int)<(d:Int):=om;clear A p;go_in;have z:w.drew.cell? ⟨l,0,Zn⟩=Zo (Zi Zk s):=v;have u:w.drew.cell? ⟨j,8,Zn⟩=Zo (Zs (Zo ⟨g,o,Zn⟩) d cap):=B;have t:w.drew.cell? ⟨m,0,Zn⟩=Zo (Zi Zk (i:Int)):=y;have D:w.drew.cell? ⟨g,o+i,Zn⟩=Zo (Zp (Zo ⟨c,0,Zn⟩)):=C;have L:=b8 v;have I:=b8 B;have N:=b8 y;have J:=b8 C;go_upto_region 1 with fail;refine wp_region_held_drew (S:=fun n=>n.cell? ⟨l,0,Zn⟩=Zo (Zi Zk s)/\n.cell? ⟨j,8,Zn⟩=Zo (Zs (Zo ⟨g,o,Zn⟩) d cap)/\n.cell? ⟨m,0,Zn⟩=Zo (Zi Zk (i:Int))/\n.cell? ⟨g,o+i,Zn⟩=Zo (Zp (Zo ⟨c,0,Zn⟩))) zK ⟨z,u,t,D⟩ (fun hHeld=>?_);have E:w.drew.heap.size=w.heap.size:=rfl;generalize w.drew=V at *;refine tk 0 ?_;refine tk 1 ?_;refine tk 2 ?_;refine tk 3 ?_;refine tk 4 ?_;refine tk 5 ?_;refine tk 6 ?_;refine tk 7 ?_;refine iT 8 fun K hK=>?_;go_simp;go_at_call 158;refine x.out.mono ?_;intro e w1 r;obtain⟨a,b,rfl,q⟩:=id r;have G:=Lib.hid (j8.make (M:=M) (S:=S) (b:=b) h r rfl);clear r q;refine hK.out _ _ ⟨kC a z om,kC a u om,kC a t om,kC a D om⟩ (fun hHeld=>?_);clear hK K x;refine tk 9 ?_;refine tk 10 ?_;refine wpAnyH_done zK ?_ _;go_simp;go_wp2_with fail;refine bodyPost_ret (by simp[results,results159,go_sem];rfl) rfl ?_;exact G.out
theorem wO (S:Nat->Prop) (M:Nat) (k:K (M+1)) (e g o a cap i d f:Nat) (w:Zw) (p:Bd S w) (m:w.cell? ⟨e,8,Zn⟩=Zo (Zs (Zo ⟨g,o,Zn⟩) a cap)) (n:w.cell? ⟨f,0,Zn⟩=Zo (Zi Zk (i:Int))) (j:w.cell? ⟨g,o+i,Zn⟩=Zo (Zp (Zo ⟨d,0,Zn⟩))) (hi:i<a) (_hln:a<=1000) (l:d8 S w (M+1) k (Zp (Zo ⟨d,0,Zn⟩))) :
  Calls prog 162 #[Zp (Zo ⟨e,0,Zn⟩),Zp (Zo ⟨f,0,Zn⟩)] w (gZ S M (mJ k) 0 w):=by have b:Bw w w.drew:=(Below.refl _ _).drew;have u:Hid (gZ S M (mJ k) 0 w (Zr (Zu #[Zp (Zo ⟨d,0,Zn⟩),Zi Zk 0])) w.drew):=⟨b,.inl ⟨rfl,_,rfl,(qZ b p l).up⟩⟩;have v:(i:Int)<(a:Int):=om;clear l p;go_in;have r:w.drew.cell? ⟨e,8,Zn⟩=Zo (Zs (Zo ⟨g,o,Zn⟩) a cap):=m;have t:w.drew.cell? ⟨f,0,Zn⟩=Zo (Zi Zk (i:Int)):=n;have q:w.drew.cell? ⟨g,o+i,Zn⟩=Zo (Zp (Zo ⟨d,0,Zn⟩)):=j;have y:=b8 m;have x:=b8 n;have z:=b8 j;go_upto_region 1 with fail;refine wp_region_held_drew (S:=fun h=>h.cell? ⟨e,8,Zn⟩=Zo (Zs (Zo ⟨g,o,Zn⟩) a cap)/\h.cell? ⟨f,0,Zn⟩=Zo (Zi Zk (i:Int))/\h.cell? ⟨g,o+i,Zn⟩=Zo (Zp (Zo ⟨d,0,Zn⟩))) zK ⟨r,t,q⟩ (fun hHeld=>?_);have s:w.drew.heap.size=w.heap.size:=rfl;generalize w.drew=V at *;refine tk 0 ?_;refine tk 1 ?_;refine tk 2 ?_;refine tk 3 ?_;refine tk 4 ?_;refine tk 5 ?_;refine tk 6 ?_;refine tk 7 ?_;refine tk 8 ?_;refine wpAnyH_done zK ?_ _;go_simp;go_wp2_with fail;refine bodyPost_ret (by simp[results,results162,go_sem];rfl) rfl ?_;exact u.out
theorem ss (S:Nat->Prop) (M:Nat) (k:K (M+1)) (j g o p cap h:Nat) (w:Zw) (q:Bd S w) (v:w.cell? ⟨j,8,Zn⟩=Zo (Zs (Zo ⟨g,o,Zn⟩) (p+1) cap)) (x:w.cell? ⟨g,o,Zn⟩=Zo (Zp (Zo ⟨h,0,Zn⟩))) (_hln:p<=1000) (n:d8 S w (M+1) k (Zp (Zo ⟨h,0,Zn⟩))) (ok:gV (M+1) k=true) (t:Kd.sort k=4) :
  Calls prog 128 #[Zp (Zo ⟨j,0,Zn⟩)] w (gZ S M (mJ (mN k)) 0 w):=by have a:Bw w w:=Below.refl _ _;obtain⟨l,u,r,b,m,f,d,c⟩:=n.within ok (.inl t);have i:Hid (Calls prog 167 _ w _):=k8 w h u r 0 b m f d om;have s:Hid (gZ S M (mJ (mN k)) 0 w (Zr (Zu #[Zp (Zo ⟨m,0,Zn⟩),Zi Zk 0])) w):=⟨a,.inl ⟨rfl,_,rfl,(qZ a q c).up⟩⟩;clear n q c;go_in;go_wp2_with fail;refine i.out.mono ?_;rintro e w1 ⟨rfl,rfl⟩;clear i;go_wp2_with fail;refine bodyPost_ret (by simp[results,results128,go_sem];rfl) rfl ?_;exact s.out
theorem vW (S:Nat->Prop) (M:Nat) (lo:Option Addr) (w:Zw) (f:Bd S w) :
  Calls prog 129 #[Zp lo] w (gZ S M (kj 6 (iz 1)) 0 w):=by
 have a:Bw w (w.alloc (Zc #[Zi Zk 1,Zs Zn 0 0,.map Zn,Zs Zn 0 0] 118)):=gF _ _;have d:Hid (Calls prog 158 #[Zi Zk 6,Zp (Zo ⟨w.heap.size,0,Zn⟩)] (w.alloc (Zc #[Zi Zk 1,Zs Zn 0 0,.map Zn,Zs Zn 0 0] 118)) _):=
  lu (Ov S w.heap.size Zn (w.alloc (Zc #[Zi Zk 1,Zs Zn 0 0,.map Zn,Zs Zn 0 0] 118))) (M+1) w.heap.size (iz 1) 6 _ zC (tf S w M 1 zC) (Ov.lt f zS)
 clear f;go_in;go_wp2_with fail;refine d.out.mono ?_;intro e w1 c;obtain⟨-,b,rfl,-⟩:=id c;have g:=Lib.hid (j8.make (M:=M) (S:=S) (b:=b) a c rfl);clear c d a;go_wp2_with fail;refine bodyPost_ret (by simp[results,results129,go_sem];rfl) rfl ?_;exact g.out
theorem uE (S:Nat->Prop) (M n:Nat) (env:jS M) (f:Nat) (t:Zv) (nb no q p:Nat) (s:ByteArray) (w:Zw) (g:gK S w M n env t) (L:s.size<=maxLen) (A:w.cell? ⟨f,6,Zn⟩=Zo t) (H:w.cell? ⟨f,3,Zn⟩=Zo (Zs (Zo ⟨nb,no,Zn⟩) (q+1) p)) (E:w.cell? ⟨nb,no,Zn⟩=Zo (Zt s)) (r:K (M+2) × Int) (D:r=match iX env s with|Zo k=>(mJ k,0)|Zn=>(zU,5)) :
  Calls prog 118 #[Zp (Zo ⟨f,0,Zn⟩)] w (gZ S M r.1 r.2 w):=by
 have o:Bw w w.drew:=(Below.refl _ _).drew;obtain⟨j,rfl⟩:∃j,t=Zp j:=by rcases g.ptr with ⟨-,rfl⟩|⟨N,rfl,-⟩<;>exact⟨_,rfl⟩
 have C:Hid (Calls prog 155 #[Zp j,Zt s] w.drew _):=EN S M n env (Zp j) s w.drew g.drew L;have I:=a7 D;clear g D;go_in;have F:w.drew.cell? ⟨f,6,Zn⟩=Zo (Zp j):=A;have z:w.drew.cell? ⟨f,3,Zn⟩=Zo (Zs (Zo ⟨nb,no,Zn⟩) (q+1) p):=H;have y:w.drew.cell? ⟨nb,no,Zn⟩=Zo (Zt s):=E;have P:=b8 A;have O:=b8 H;have Q:=b8 E;go_upto_region 1 with fail;refine wp_region_held_drew (S:=fun v=>v.cell? ⟨f,6,Zn⟩=Zo (Zp j)/\v.cell? ⟨f,3,Zn⟩=Zo (Zs (Zo ⟨nb,no,Zn⟩) (q+1) p)/\v.cell? ⟨nb,no,Zn⟩=Zo (Zt s)) zK ⟨F,z,y⟩ (fun hHeld=>?_);have J:w.drew.heap.size=w.heap.size:=rfl;generalize w.drew=V at *;refine tk 0 ?_;refine tk 1 ?_;refine tk 2 ?_;refine tk 3 ?_;refine tk 4 ?_;refine tk 5 ?_;refine tk 6 ?_;refine tk 7 ?_;refine tk 8 ?_;refine tk 9 ?_;refine tk 10 ?_;refine iT 11 fun K hK=>?_;go_simp;go_at_call 155;refine C.out.mono ?_;rintro e w1 ⟨rfl,B⟩;have i:=Below.refl w1.heap.size w1;have a:=a7 B;clear B;obtain⟨G,u⟩:∃G,e=Zr (Zp G):=by (rcases a.out with ⟨-,rfl⟩|⟨k,b,-,rfl,-⟩<;>exact⟨_,rfl⟩)
 subst u;refine hK.out _ _ ⟨kC i F om,kC i z om,kC i y om⟩ (fun hHeld=>?_);clear hK K C;refine tk 12 ?_;refine wpAnyH_done zK ?_ _;go_simp;rcases a.out with ⟨l,c⟩|⟨k,b,l,c,m⟩
 ·injection c with c;injection c with c;subst c;have x:Hid (gZ S M r.1 r.2 w (Zr (Zu #[Zp Zn,Zi Zk 5])) w1):=by rw[I.out,l];exact⟨o,.inr ⟨by show (5:Int)≠0;decide,rfl⟩⟩
  clear l a;go_wp2_with fail;refine bodyPost_ret (by simp[results,results118,go_sem];rfl) rfl ?_;exact x.out
 ·injection c with c;injection c with c;subst c;have x:Hid (gZ S M r.1 r.2 w (Zr (Zu #[Zp (Zo ⟨b,0,Zn⟩),Zi Zk 0])) w1):=by rw[I.out,l];exact⟨o,.inl ⟨rfl,_,rfl,(m.keep (fun _ _=>rfl) fun _ h=>.inl h).up⟩⟩
  clear l a m;go_wp2_with fail;refine bodyPost_ret (by simp[results,results118,go_sem];rfl) rfl ?_;exact x.out
theorem d8.fieldAt {k:K (M+1)} (h:d8 S w (M+1) k (Zp (Zo ⟨b,0,Zn⟩))) (ok:gV (M+1) k=true) (r:Kd.sort k=5) (s:ByteArray) (A:s.size<=maxLen) :
  Calls prog 163 #[Zp (Zo ⟨b,0,Zn⟩),Zt s] w fun e u=>u=w/\((mL k s=Zn/\e=Zr (Zp Zn))∨∃x j,mL k s=Zo x/\e=Zr (Zp (Zo ⟨j,0,Zn⟩))/\d8 S w (M+1) x (Zp (Zo ⟨j,0,Zn⟩))):=by
 obtain⟨E,F,y,I,d,L,f,N,z,J,cap,rfl,H,B⟩:=h;injection d with d;injection d with d;injection d with d;subst d;obtain⟨f1,f2,f3,f4,-⟩:=mp ok r;obtain⟨O,G,v,C⟩:=kP f;by_cases t:s∈Kd.names k
 ·obtain⟨i,hi,n⟩:=List.getElem_of_mem t;have a:i<(Kd.kids k).length:=om;obtain⟨g,o,rfl,D,m⟩:=B (fun h=>by rw[h]at a;simp at a);obtain⟨c,q,l⟩:=m i a;obtain⟨j,rfl,-⟩:=l.ptr;have p:(Kd.names k)[i].size<=maxLen:=by rw[n];exact A
  have:=DP S w (Kd.names k) y b g o (Kd.kids k).length cap j i v (z r) f4 hi p C a q;rw[n]at this;refine this.mono ?_;rintro e u ⟨rfl,rfl⟩;refine⟨rfl,.inr ⟨_,j,?_,rfl,l.up⟩⟩;unfold mL;rw[<- n,nA _ _ i hi a f4];rfl
 ·refine (EG S w (Kd.names k) y b s v (z r) t A).mono ?_;rintro e u ⟨rfl,rfl⟩;refine⟨rfl,.inl ⟨?_,rfl⟩⟩;unfold mL;rw[oO _ _ _ t];rfl
theorem Ir:gV (M+1) (zU:K (M+1))=false:=by
 cases h:gV (M+1) (zU:K (M+1)) with
 | false=>rfl
 | true=>have a:fW 0 [] 0=true:=(ic (ie h).1).2.1;simp[fW]at a
theorem uC.ok{k:K (M+1)}(h:uC S w M k c)(ok:gV (M+1) k=true):d8 S w (M+1) k c:=by
 rcases h with h|h;·exact h.2
 ·rw[h.1,Ir]at ok;cases ok
theorem ue (S:Nat->Prop) (M:Nat) (k:K (M+1)) (i g o v cap l:Nat) (nb no t q:Nat) (s:ByteArray) (w:Zw) (B:w.cell? ⟨i,8,Zn⟩=Zo (Zs (Zo ⟨g,o,Zn⟩) (v+1) cap)) (J:w.cell? ⟨g,o,Zn⟩=Zo (Zp (Zo ⟨l,0,Zn⟩))) (F:w.cell? ⟨i,3,Zn⟩=Zo (Zs (Zo ⟨nb,no,Zn⟩) (t+1) q)) (L:w.cell? ⟨nb,no,Zn⟩=Zo (Zt s)) (R:s.size<=maxLen) (H:d8 S w (M+1) k (Zp (Zo ⟨l,0,Zn⟩))) (ok:gV (M+1) k=true) (Q:Kd.sort k=5) (r:K (M+2) × Int) (E:r=match mL k s with|Zo x=>(mJ x,0)|Zn=>(zU,8)) :
  Calls prog 124 #[Zp (Zo ⟨i,0,Zn⟩)] w (gZ S M r.1 r.2 w):=by
 have n:Bw w w.drew:=(Below.refl _ _).drew;have D:Hid (Calls prog 163 #[Zp (Zo ⟨l,0,Zn⟩),Zt s] w.drew _):=H.drew.fieldAt ok Q s R;have O:=a7 E;clear H E ok;go_in;have G:w.drew.cell? ⟨i,8,Zn⟩=Zo (Zs (Zo ⟨g,o,Zn⟩) (v+1) cap):=B;have A:w.drew.cell? ⟨g,o,Zn⟩=Zo (Zp (Zo ⟨l,0,Zn⟩)):=J;have z:w.drew.cell? ⟨i,3,Zn⟩=Zo (Zs (Zo ⟨nb,no,Zn⟩) (t+1) q):=F;have N:w.drew.cell? ⟨nb,no,Zn⟩=Zo (Zt s):=L;have W:=b8 B;have T:=b8 J;have X:=b8 F;have U:=b8 L;go_upto_region 1 with fail;refine wp_region_held_drew (S:=fun p=>p.cell? ⟨i,8,Zn⟩=Zo (Zs (Zo ⟨g,o,Zn⟩) (v+1) cap)/\p.cell? ⟨g,o,Zn⟩=Zo (Zp (Zo ⟨l,0,Zn⟩))/\p.cell? ⟨i,3,Zn⟩=Zo (Zs (Zo ⟨nb,no,Zn⟩) (t+1) q)/\p.cell? ⟨nb,no,Zn⟩=Zo (Zt s)) zK ⟨G,A,z,N⟩ (fun hHeld=>?_);have P:w.drew.heap.size=w.heap.size:=rfl;generalize w.drew=V at *;refine tk 0 ?_;refine tk 1 ?_;refine tk 2 ?_;refine tk 3 ?_;refine tk 4 ?_;refine tk 5 ?_;refine tk 6 ?_;refine tk 7 ?_;refine tk 8 ?_;refine tk 9 ?_;refine tk 10 ?_;refine tk 11 ?_;refine tk 12 ?_;refine iT 13 fun K hK=>?_;go_simp;go_at_call 163;refine D.out.mono ?_;rintro e w1 ⟨rfl,C⟩;have d:=Below.refl w1.heap.size w1;have a:=a7 C;clear C;obtain⟨I,u⟩:∃I,e=Zr (Zp I):=by (rcases a.out with ⟨-,rfl⟩|⟨k,b,-,rfl,-⟩<;>exact⟨_,rfl⟩)
 subst u;refine hK.out _ _ ⟨kC d G om,kC d A om,kC d z om,kC d N om⟩ (fun hHeld=>?_);clear hK K D;refine tk 14 ?_;refine wpAnyH_done zK ?_ _;go_simp;rcases a.out with ⟨j,c⟩|⟨x,b,j,c,m⟩
 ·injection c with c;injection c with c;subst c;have y:Hid (gZ S M r.1 r.2 w (Zr (Zu #[Zp Zn,Zi Zk 8])) w1):=by rw[O.out,j];exact⟨n,.inr ⟨by show (8:Int)≠0;decide,rfl⟩⟩
  clear j a;go_wp2_with fail;refine bodyPost_ret (by simp[results,results124,go_sem];rfl) rfl ?_;exact y.out
 ·injection c with c;injection c with c;subst c;have y:Hid (gZ S M r.1 r.2 w (Zr (Zu #[Zp (Zo ⟨b,0,Zn⟩),Zi Zk 0])) w1):=by rw[O.out,j];exact⟨n,.inl ⟨rfl,_,rfl,(m.keep (fun _ _=>rfl) fun _ h=>.inl h).up⟩⟩
  clear j a m;go_wp2_with fail;refine bodyPost_ret (by simp[results,results124,go_sem];rfl) rfl ?_;exact y.out
theorem se (S:Nat->Prop) (n:Nat) (names:List ByteArray) (f:List (K n)) (t r:Zv) (w:Zw) (g:Bd S w) (i:fL S w names t) (k:lx S w (d8 S w n) f r) :
  Calls prog 164 #[t,r] w (j8 S (n+1) (⟨5,names,f⟩:Kd (K n)) w):=by
 obtain⟨na,s,rfl,-⟩:=id i;obtain⟨m,p,rfl,-⟩:=id k;have o:Hid (Calls prog 151 _ w _):=p9 S names _ w i g;have x:=a7 i;have u:=a7 k;clear i k;go_in;go_wp2_with fail;refine o.out.mono ?_;rintro e w1 ⟨z,rfl,l,c⟩;have d:=c.size;obtain⟨q,rfl,-,-⟩:=id l;have a:Bw w (w1.alloc (Zc #[Zi Zk 5,Zs na names.length s,.map (Zo q),Zs m f.length p] 118)):=c.alloc d _;have v:Hid (j8 S (n+1) (⟨5,names,f⟩:Kd (K n)) w (Zr (Zp (Zo ⟨w1.heap.size,0,Zn⟩))) (w1.alloc (Zc #[Zi Zk 5,Zs na names.length s,.map (Zo q),Zs m f.length p] 118))):=
  ⟨a,_,rfl,_,_,_,_,rfl,.inr ⟨d,zS,zS⟩,heap_alloc_new _ _,x.out.keep (a6 a g) fun _ h=>.inl h,fun _=>l.keep (fun b j=>Below.heap_alloc _ _ _ j.2) fun b j=>.inr ⟨j.1,by have:=j.2;simp;omega,zS⟩,u.out.keep (a6 a g) (fun _ h=>.inl h) fun _ _ _ y=>y.keep (a6 a g) fun _ h=>.inl h⟩
 clear o l c a;go_wp2;go_ret;exact v.out
theorem xt (S:Nat->Prop) (M:Nat) (names:List ByteArray) (c:List (K (M+1))) (d:Nat) (na k:Option Addr) (i f:Nat) (w:Zw) (j:Bd S w) (p:w.cell? ⟨d,3,Zn⟩=Zo (Zs na names.length i)) (u:w.cell? ⟨d,8,Zn⟩=Zo (Zs k c.length f)) (v:fL S w names (Zs na names.length i)) (s:lx S w (d8 S w (M+1)) c (Zs k c.length f)) :
  Calls prog 127 #[Zp (Zo ⟨d,0,Zn⟩)] w (gZ S M (⟨5,names,c⟩:Kd (K (M+1))) 0 w):=by have a:Bw w w.drew:=(Below.refl _ _).drew;have q:Hid (Calls prog 164 #[Zs na names.length i,Zs k c.length f] w.drew _):=se (Ov S w.heap.size Zn w.drew) (M+1) names c _ _ w.drew (Ov.lt j (Nat.le_refl _)) (v.keep (a6 a j) fun _ h=>.inl h) (s.keep (a6 a j) (fun _ h=>.inl h) fun _ _ _ y=>y.keep (a6 a j) fun _ h=>.inl h);clear v s j;go_in;have r:w.drew.cell? ⟨d,3,Zn⟩=Zo (Zs na names.length i):=p;have o:w.drew.cell? ⟨d,8,Zn⟩=Zo (Zs k c.length f):=u;have B:=b8 p;have A:=b8 u;go_upto_region 1 with fail;refine wp_region_held_drew (S:=fun t=>t.cell? ⟨d,3,Zn⟩=Zo (Zs na names.length i)/\t.cell? ⟨d,8,Zn⟩=Zo (Zs k c.length f)) zK ⟨r,o⟩ (fun hHeld=>?_);have x:w.drew.heap.size=w.heap.size:=rfl;generalize w.drew=V at *;refine tk 0 ?_;refine tk 1 ?_;refine tk 2 ?_;refine tk 3 ?_;refine tk 4 ?_;refine tk 5 ?_;refine tk 6 ?_;refine tk 7 ?_;refine tk 8 ?_;refine iT 9 fun K hK=>?_;go_simp;go_at_call 164;refine q.out.mono ?_;intro e w1 n;obtain⟨l,b,rfl,m⟩:=id n;have z:=Lib.hid (j8.make (M:=M) (S:=S) (b:=b) a n rfl);clear n m;refine hK.out _ _ ⟨kC l r om,kC l o om⟩ (fun hHeld=>?_);clear hK K q;refine tk 10 ?_;refine tk 11 ?_;refine wpAnyH_done zK ?_ _;go_simp;go_wp2_with fail;refine bodyPost_ret (by simp[results,results127,go_sem];rfl) rfl ?_;exact z.out
theorem ry {N:Nat} {a b:Zv} {t:TypeId} (h:w.heap[N]?=Zo (Zc #[a,b,c] t (0,0))) :
  w.cell? ⟨N,0,Zn⟩=Zo a/\w.cell? ⟨N,1,Zn⟩=Zo b/\w.cell? ⟨N,2,Zn⟩=Zo c:=by refine⟨?_,?_,?_⟩<;>simp[World.cell?,h]
theorem CV (S:Nat->Prop) (M:Nat) (hM:5<=M) (x:ByteArray) (s:Int) (lb C:Nat) (w:Zw) (hB:Bd S w) (h5:s≠5) (e0:w.cell? ⟨lb,2,Zn⟩=Zo (Zt x)) (e1:w.cell? ⟨C,0,Zn⟩=Zo (Zi Zk s)) (H:jK x=true) :
  Calls prog 156 #[Zp (Zo ⟨lb,0,Zn⟩),Zp (Zo ⟨C,0,Zn⟩)] w (gZ S M (kj s (pL M x)) 0 w):=by
 obtain⟨k,T⟩:∃k,iO (x.size+8) x=Zo k:=Option.isSome_iff_exists.1 H;obtain⟨ad,v,Y⟩:=j9 T;have A:pL M x=fQ M (x.size+8) k:=by unfold pL;rw[T]
 have d:=mK (m:=x.size+7) T;have t:gV (M+1) (pL M x)=true:=by rw[A];exact (rR hM v).1
 have HC:Hid (Calls prog 157 #[Zt x] w fun e R=>Bw w R/\∃c g j q f l i,e=Zr (Zu #[.agg #[Zi Zk c,Zs g j q,Zs f l i],.bool true])/\a8 (fun b=>w.heap.size<=b/\b<R.heap.size) R (M+1) (pL M x) (Zi Zk c) (Zs g j q) (Zs f l i)):=by refine (oT x (x.size+7) om om w).mono ?_;rintro e R ⟨r,c0,c1,c2,L3,L4,rfl,B,-⟩;rw[d.1]at B;obtain⟨c,g,j,q,f,l,i,rfl,rfl,rfl⟩:=B.shape;refine⟨r,c,g,j,q,f,l,i,by rw[d.2],?_⟩;rw[A];exact a8.okd (n:=x.size+8) v hM B
 have l1:=b8 e1;obtain⟨N,I⟩:=ie t;have X:=a7 N;have aa:=a7 I;clear T ad v Y A d H t N I;go_in;go_wp2_with fail;refine HC.out.mono ?_;rintro e w1 ⟨P,c,g,j,q,f,l,i,rfl,Q⟩;have ab:=P.size;obtain⟨W,D⟩:=iw (w1.alloc (Zc #[Zi Zk c,Zs g j q,Zs f l i] 31));have O:Bw w W:=by rw[D];exact P.alloc ab _
 have J:W.heap[w1.heap.size]?=Zo (Zc #[Zi Zk c,Zs g j q,Zs f l i] 31 (0,0)):=by rw[D];exact heap_alloc_new _ _
 have af:W.heap.size=w1.heap.size+1:=by rw[D];simp
 have F:a8 (Ov S w.heap.size Zn W) W.drew (M+1) (pL M x) (Zi Zk c) (Zs g j q) (Zs f l i):=Q.keep (fun b a=>by show W.heap[b]?=_;rw[D];exact Below.heap_alloc _ _ _ a.2) fun b a=>.inr ⟨a.1,by have:=a.2;omega,zS⟩;have HM:Hid (Calls prog 114 #[.agg #[Zi Zk c,Zs g j q,Zs f l i]] W.drew _):=xL (M+1) _ (pL M x) _ _ _ 1 W.drew F (Ov.lt hB (by show _<=W.heap.size;omega)) X.out aa.out;obtain⟨k0,k1,k2⟩:=ry (w:=W.drew) J;have d1:W.drew.cell? ⟨C,0,Zn⟩=Zo (Zi Zk s):=(O.cell (p:=⟨C,0,Zn⟩) l1).trans e1;have L:Bw w W.drew:=O.drew;clear HC Q F J;go_upto_region 2 with fail;rw[<- D];clear D;refine wp_region_held_drew (S:=fun U=>U.cell? ⟨C,0,Zn⟩=Zo (Zi Zk s)/\U.cell? ⟨w1.heap.size,0,Zn⟩=Zo (Zi Zk c)/\U.cell? ⟨w1.heap.size,1,Zn⟩=Zo (Zs g j q)/\U.cell? ⟨w1.heap.size,2,Zn⟩=Zo (Zs f l i)) zK ⟨d1,k0,k1,k2⟩ (fun hHeld=>?_);have ag:W.drew.heap.size=W.heap.size:=rfl;generalize W.drew=V at *;refine tk 0 ?_;refine tk 1 ?_;refine iT 2 fun K hK=>?_;go_simp;go_at_call 114;refine HM.out.mono ?_;rintro e G ⟨o,v2,rfl,z⟩;obtain⟨kb,rfl,-⟩:=id z.ptr;have ae:=o.size;have y:∀E,Bw V E->E.cell? ⟨C,0,Zn⟩=Zo (Zi Zk s)/\E.cell? ⟨w1.heap.size,0,Zn⟩=Zo (Zi Zk c)/\E.cell? ⟨w1.heap.size,1,Zn⟩=Zo (Zs g j q)/\E.cell? ⟨w1.heap.size,2,Zn⟩=Zo (Zs f l i):=fun E h=>⟨kC h d1 om,kC h k0 om,kC h k1 om,kC h k2 om⟩;have ac:=a7 y;refine hK.out _ _ (y G o) (fun hHeld=>?_);have r:Bw w G:=L.trans (o.mono L.size);have HD:Hid (Calls prog 158 #[Zi Zk s,Zp (Zo ⟨kb,0,Zn⟩)] G _):=lu (Ov S w.heap.size Zn G) (M+1) kb (pL M x) s G h5 (z.keep (fun _ _=>rfl) fun b a=>by
  rcases a with (a|a)|a
  ·exact .inl a
  ·exact .inr ⟨a.1,by have:=a.2.1;omega,zS⟩
  ·exact .inr ⟨om,a.2,zS⟩) (Ov.lt hB r.size)
 clear hK K HM z y;refine iT 3 fun K hK=>?_;go_simp;go_at_call 158;refine HD.out.mono ?_;intro e w4 hP;obtain⟨Z,b,rfl,-⟩:=id hP;refine hK.out _ _ (ac.out w4 (o.trans (Z.mono o.size))) (fun hHeld=>?_);have HF:=Lib.hid (j8.make (M:=M) (S:=S) (b:=b) r hP rfl);clear hK K HD hP;refine tk 4 ?_;refine tk 5 ?_;refine wpAnyH_done zK ?_ _;go_simp;go_wp2_with fail;refine bodyPost_ret (by simp[results,results156,go_sem];rfl) rfl ?_;exact HF.out
abbrev Wd:=List Int ⊕ Nat
abbrev Wd.sorts(l:List Int):Wd:=.inl l
abbrev Wd.any:Wd:=.inr 0
abbrev Wd.within:Wd:=.inr 1
abbrev Wd.sink:Wd:=.inr 2
abbrev Wd.like(p:Nat):Wd:=.inr (p+3)
theorem Wd.cs{P:Wd->Prop}(sorts:∀l,P (.sorts l))(any:P .any)(like:∀p,P (.like p))(within:P .within)(sink:P .sink):∀d,P d
 | .inl l=>sorts l
 | .inr 0=>any
 | .inr 1=>within
 | .inr 2=>sink
 | .inr (p+3)=>like p
abbrev Md:=(Int×Nat) ⊕ Nat
abbrev Md.leaf(s:Int):Md:=.inl (s,0)
abbrev Md.said(s:Int):Md:=.inl (s,1)
abbrev Md.wrap(s:Int)(p:Nat):Md:=.inl (s,p+2)
abbrev Md.bound:Md:=.inr 0
abbrev Md.field:Md:=.inr 1
abbrev Md.put:Md:=.inr 2
abbrev Md.cut:Md:=.inr 3
abbrev Md.form:Md:=.inr 4
abbrev Md.within:Md:=.inr 5
abbrev Md.num:Md:=.inr 6
abbrev Md.kid(p:Nat):Md:=.inr (p+7)
theorem Md.cs{P:Md->Prop}(leaf:∀s,P (.leaf s))(bound:P .bound)(said:∀s,P (.said s))(wrap:∀s p,P (.wrap s p))(kid:∀p,P (.kid p))(field:P .field)(put:P .put)(cut:P .cut)(form:P .form)(within:P .within)(num:P .num):∀d,P d
 | .inl (s,0)=>leaf s
 | .inl (s,1)=>said s
 | .inl (s,p+2)=>wrap s p
 | .inr 0=>bound
 | .inr 1=>field
 | .inr 2=>put
 | .inr 3=>cut
 | .inr 4=>form
 | .inr 5=>within
 | .inr 6=>num
 | .inr (p+7)=>kid p
def Iu:List (List Wd):=[[],[],[],[],[],[],[],[],[],[.sorts [1],.sorts [1]],[.sorts [1],.sorts [1]],[.sorts [1],.sorts [1]],[.sorts [1],.sorts [1]],[.sorts [1],.sorts [1]],[.sorts [1,2],.like 0],[.any,.like 0],[.sorts [3],.sorts [3]],[.sorts [3],.sorts [3]],[.sorts [3]],[.sorts [3],.any,.like 1],[],[.sorts [5]],[.sorts [5]],[.sorts [5]],[],[.sorts [4],.sorts [1]],[.sorts [4,2]],[.sorts [4,2],.like 0],[.sorts [4,2],.sorts [1],.sorts [1]],[.sorts [1]],[.sorts [2]],[.sorts [6],.within],[.sorts [6],.any,.like 1],[.sorts [4]],[.sorts [4],.sorts [3]],[.sorts [4],.any,.like 1],[],[],[.sink],[.sink],[],[.sorts [3]],[],[.sorts [4]]]
def IM:List (Option Md):=[Zn,Zo (.leaf 1),Zo (.leaf 2),Zo (.leaf 3),Zo (.bound),Zo (.said 6),Zo (.said 4),Zo (.wrap 6 0),Zo (.wrap 4 0),Zo (.leaf 1),Zo (.leaf 1),Zo (.leaf 1),Zo (.leaf 1),Zo (.leaf 1),Zo (.leaf 3),Zo (.leaf 3),Zo (.leaf 3),Zo (.leaf 3),Zo (.leaf 3),Zo (.kid 1),Zo (.kid 1),Zo (.field),Zo (.put),Zo (.cut),Zo (.form),Zo (.within),Zo (.leaf 1),Zo (.kid 0),Zo (.kid 0),Zo (.leaf 2),Zo (.num),Zo (.kid 1),Zo (.kid 1),Zo (.wrap 4 1),Zo (.kid 0),Zo (.kid 1),Zn,Zn,Zn,Zn,Zn,Zn,Zn,Zn]
def iC(k:Nat):List Wd:=Iu.getD k []
def je(k:Nat):Option Md:=IM.getD k Zn
def o6{M:Nat}(d:Wd)(b k:K (M+1))(a:List (K (M+1))):Bool:=
 match d with
 | .inl l=>decide (Kd.sort k∈l)
 | .inr 0=>true
 | .inr (p+3)=>jA k (a.getD p zU)
 | .inr 1=>jA k (mN (a.getD 0 zU))
 | .inr 2=>jA k b
def FC(op:Int)(i:Nat):Wd:=
 if (9<=op/\op<=13)∨op=29 then .sorts [1]
 else if op=30 then .sorts [2]
 else if 16<=op/\op<=18 then .sorts [3]
 else if op=14 then if i=0 then .sorts [1,2] else .like 0
 else if op=15 then if i=0 then .any else .like 0
 else if op=19∨op=41 then if i=0 then .sorts [3] else if op=19/\i=2 then .like 1 else .any
 else if 21<=op/\op<=23 then if i=1 then .any else .sorts [5]
 else if op=25 then if i=0 then .sorts [4] else .sorts [1]
 else if op=26 then .sorts [4,2]
 else if op=27 then if i=0 then .sorts [4,2] else .like 0
 else if op=28 then if i=0 then .sorts [4,2] else .sorts [1]
 else if op=31 then if i=0 then .sorts [6] else .within
 else if op=32 then if i=0 then .sorts [6] else if i=2 then .like 1 else .any
 else if op=33∨op=43 then if i=1 then .any else .sorts [4]
 else if op=34 then if i=0 then .sorts [4] else .sorts [3]
 else if op=35 then if i=0 then .sorts [4] else if i=2 then .like 1 else .any
 else if op=38∨op=39 then .sink
 else .any
theorem IE{d k:K (M+1)}{e:List (K (M+1))}{c:Prop} [Decidable c] {a b:Wd}:o6 (if c then a else b) d k e=if c then o6 a d k e else o6 b d k e:=by split<;>rfl
theorem Dn(op:Int)(a:K (M+1))(i:Nat)(k:K (M+1))(b:List (K (M+1))):b9 op a i k b=o6 (FC op i) a k b:=by
 unfold b9 FC;simp only[IE];repeat' refine ite_congr rfl (fun _=>?_) (fun _=>?_)
 all_goals first|rfl|(rw[Bool.eq_iff_iff];simp[o6];done)|(split<;>simp_all [o6];done)
theorem EZ:∀k,k<44->k≠24->∀i,i<(lA k).length->(iC k).getD i .any=FC (k:Int) i:=by decide
theorem GP(k i:Nat)(c:k<44)(hi:k≠24->i<(lA k).length)(a x:K (M+1))(b:List (K (M+1))):b9 (k:Int) a i x b=o6 ((iC k).getD i .any) a x b:=by
 rw[Dn];by_cases h:k=24;·subst h;rfl
 ·rw[EZ k c h i (hi h)]
def lV{M:Nat}(d:Option Md)(names:List ByteArray)(text:ByteArray)(env:jS M)(a:List (K (M+1))):K (M+2)×Int:=
 match d with
 | none=>(zU,0)
 | some (.inl (s,0))=>(iz s,0)
 | some (.inr 0)=>match iX env (names.getD 0 ByteArray.empty) with|Zo k=>(mJ k,0)|Zn=>(zU,5)
 | some (.inl (s,1))=>(kj s (pL M text),0)
 | some (.inl (s,p+2))=>(kj s (a.getD p zU),0)
 | some (.inr (p+7))=>(mJ (a.getD p zU),0)
 | some (.inr 1)=>match mL (a.getD 0 zU) (names.getD 0 ByteArray.empty) with|Zo k=>(mJ k,0)|Zn=>(zU,8)
 | some (.inr 2)=>(zM (a.getD 0 zU) (names.getD 0 ByteArray.empty) (a.getD 1 zU),0)
 | some (.inr 3)=>match mL (a.getD 0 zU) (names.getD 0 ByteArray.empty) with|Zo _=>(zr (a.getD 0 zU) (names.getD 0 ByteArray.empty),0)|Zn=>(zU,8)
 | some (.inr 4)=>((⟨5,names,a⟩:Kd (K (M+1))),0)
 | some (.inr 5)=>(mJ (mN (a.getD 0 zU)),0)
 | some (.inr 6)=>(kj 6 (iz 1),0)
theorem Hr(k:Nat)(c:1<=k)(b:k<=35)(names:List ByteArray)(text:ByteArray)(env:jS M)(a:List (K (M+1))):fX (k:Int) names text env a=lV (je k) names text env a:=by
 obtain h|h|h|h|h|h|h|h|h|h|h|h|h|h|h|h|h|h|h|h|h|h|h|h|h|h|h|h|h|h|h|h|h|h|h:k=1∨k=2∨k=3∨k=4∨k=5∨k=6∨k=7∨k=8∨k=9∨k=10∨k=11∨k=12∨k=13∨k=14∨k=15∨k=16∨k=17∨k=18∨k=19∨k=20∨k=21∨k=22∨k=23∨k=24∨k=25∨k=26∨k=27∨k=28∨k=29∨k=30∨k=31∨k=32∨k=33∨k=34∨k=35:=by omega
 all_goals (subst h;rfl)
def kH(S:Nat->Prop)(w:Zw)(d:Wd)(f:Zv):Prop:=
 match d with
 | .inl l=>∃a b off cap,f=.func (.func 152) #[] #[Zp (Zo ⟨a,0,Zn⟩)]/\S a/\S b/\w.cell? ⟨a,0,Zn⟩=Zo (Zs (Zo ⟨b,off,Zn⟩) l.length cap)/\(∀i (h:i<l.length),w.cell? ⟨b,off+i,Zn⟩=Zo (Zi Zk l[i]))/\l.length<=100
 | .inr 0=>f=.func (.func 122) #[] #[]
 | .inr (p+3)=>∃c,f=.func (.func 160) #[] #[Zp (Zo ⟨c,0,Zn⟩)]/\S c/\w.cell? ⟨c,0,Zn⟩=Zo (Zi Zk (p:Int))
 | .inr 1=>f=.func (.func 130) #[] #[]
 | .inr 2=>f=.func (.func 131) #[] #[]
theorem kH.keep{d:Wd}(h:kH S w d f)(j:jy S w w')(e:∀b,S b->S' b):kH S' w' d f:=by
 cases d using Wd.cs with
 | sorts l=>obtain⟨n,b,off,cap,c,a,k,g,q,o⟩:=h;exact⟨n,b,off,cap,c,e _ a,e _ k,(j.cell (p:=⟨n,0,Zn⟩) a).trans g,fun i h=>(j.cell (p:=⟨b,off+i,Zn⟩) k).trans (q i h),o⟩
 | any=>exact h
 | like p=>obtain⟨m,c,a,g⟩:=h;exact⟨m,c,e _ a,(j.cell (p:=⟨m,0,Zn⟩) a).trans g⟩
 | within=>exact h
 | sink=>exact h
def kB(S:Nat->Prop)(w:Zw)(d:Option Md)(f:Zv):Prop:=
 match d with
 | none=>f=.nilFunc
 | some (.inl (s,0))=>∃a,f=.func (.func 154) #[] #[Zp (Zo ⟨a,0,Zn⟩)]/\S a/\w.cell? ⟨a,0,Zn⟩=Zo (Zi Zk s)/\s≠5
 | some (.inr 0)=>f=.func (.func 118) #[] #[]
 | some (.inl (s,1))=>∃a,f=.func (.func 156) #[] #[Zp (Zo ⟨a,0,Zn⟩)]/\S a/\w.cell? ⟨a,0,Zn⟩=Zo (Zi Zk s)/\s≠5
 | some (.inl (s,p+2))=>∃a b,f=.func (.func 159) #[] #[Zp (Zo ⟨a,0,Zn⟩),Zp (Zo ⟨b,0,Zn⟩)]/\S a/\S b/\w.cell? ⟨a,0,Zn⟩=Zo (Zi Zk s)/\w.cell? ⟨b,0,Zn⟩=Zo (Zi Zk (p:Int))/\s≠5
 | some (.inr (p+7))=>∃b,f=.func (.func 162) #[] #[Zp (Zo ⟨b,0,Zn⟩)]/\S b/\w.cell? ⟨b,0,Zn⟩=Zo (Zi Zk (p:Int))
 | some (.inr 1)=>f=.func (.func 124) #[] #[]
 | some (.inr 2)=>f=.func (.func 125) #[] #[]
 | some (.inr 3)=>f=.func (.func 126) #[] #[]
 | some (.inr 4)=>f=.func (.func 127) #[] #[]
 | some (.inr 5)=>f=.func (.func 128) #[] #[]
 | some (.inr 6)=>f=.func (.func 129) #[] #[]
theorem kB.keep{d:Option Md}(h:kB S w d f)(o:jy S w w')(i:∀b,S b->S' b):kB S' w' d f:=by
 have g:∀ {p:Nat} {v:Zv},S p->w.cell? ⟨p,0,Zn⟩=Zo v->w'.cell? ⟨p,0,Zn⟩=Zo v:=fun {p} {v} a c=>(o.cell (p:=⟨p,0,Zn⟩) a).trans c;rcases d with - | d;·exact h
 cases d using Md.cs with
 | leaf s=>obtain⟨j,e,a,c,k⟩:=h;exact⟨j,e,i _ a,g a c,k⟩
 | said s=>obtain⟨j,e,a,c,k⟩:=h;exact⟨j,e,i _ a,g a c,k⟩
 | wrap s p=>obtain⟨j,l,e,a,c,k,n,m⟩:=h;exact⟨j,l,e,i _ a,i _ c,g a k,g c n,m⟩
 | kid p=>obtain⟨l,e,a,c⟩:=h;exact⟨l,e,i _ a,g a c⟩
 | _=>exact h
def kT(S:Nat->Prop)(w:Zw)(k:Nat)(a mv:Zv):Prop:=lx S w (kH S w) (iC k) a/\kB S w (je k) mv
theorem kT.keep{k:Nat}{d mv:Zv}(h:kT S w k d mv)(a:jy S w w')(c:∀b,S b->S' b):kT S' w' k d mv:=
 ⟨h.1.keep a c fun _ _ _ e=>e.keep a c,h.2.keep a c⟩
def Fs(S:Nat->Prop)(w:Zw)(b pl:Nat):Prop:=
 ∃cs:Array Zv,w.heap[b]?=Zo (Zc cs 141 (0,0))/\cs.size=90/\cs[89]?=Zo (Zi Zk (pl:Int))/\∀k,1<=k->k<44->∃a mv,cs[1+k*2]?=Zo a/\cs[1+k*2+1]?=Zo mv/\kT S w k a mv
def F4(f:Zv)(first:Array Zv)(w:Zw)(Q:Ending->Zw->Prop):Prop:=
 ∃n cap,f=.func (.func n) #[] cap/\(∀(args:Array Zv)(W:Zw),(callFunc n args).run prog W=.ok (.enter n args) W)/\∀args:Array Zv,args=first++cap->Calls prog n args w Q
theorem CU {m u:Nat} {t:T (m+1)} {D:Nat} {env:jS M} {C:K (M+1)} {h:List (K (M+1))} (H:mG S w M m u t D env C h) (F:Bd S w) (I:h.length<=1000) {d:Wd} (A:kH S w d f) {x:K (M+1)} {s:Nat} (B:d8 S w (M+1) x (Zp (Zo ⟨s,0,Zn⟩))) (q:gV (M+1) x=true)
  (k:∀p,d=.like p->p<h.length/\gV (M+1) (h.getD p zU)=true) (E:d=.within->0<h.length/\gV (M+1) (h.getD 0 zU)=true/\Kd.sort (h.getD 0 zU)=6) (r:d=.sink->gV (M+1) C=true) :
  F4 f #[Zp (Zo ⟨u,0,Zn⟩),Zp (Zo ⟨s,0,Zn⟩)] w fun e V=>e=Zr (.bool (o6 d C x h))/\Bw w V:=by
 cases d using Wd.cs with
 | sorts l=>obtain⟨O,b,off,cap,rfl,Q,L,W,P,U⟩:=A;exact⟨_,_,rfl,Tryz.call152,fun args i=>by subst i;exact yi l _ _ s O b off cap w W P U (AC B)⟩
 | any=>
  cases A
  exact⟨_,_,rfl,Tryz.call122,fun args i=>by subst i;exact wh _ _ w⟩
 | like p=>obtain⟨R,rfl,Q,L⟩:=A;obtain⟨j,a⟩:=k p rfl;obtain⟨g,o,cap,c,J,G,v⟩:=H.kid p j;rw[gr j]at a;obtain⟨z,rfl,-⟩:=id (v.ok a).ptr;refine⟨_,_,rfl,Tryz.call160,fun args i=>?_⟩;subst i;have:=CJ (M+1) S h[p] x u g o h.length cap p z s R w F J j I L G (v.ok a) B a q;simp only[o6];rw[gr j];exact this
 | within=>
  cases A
  obtain⟨j,a,N⟩:=E rfl;obtain⟨g,o,cap,c,J,G,v⟩:=H.kid 0 j;rw[gr j]at a N;obtain⟨z,rfl,-⟩:=id (v.ok a).ptr;refine⟨_,_,rfl,Tryz.call130,fun args i=>?_⟩;subst i;have:=sD M S h[0] x u g o (h.length-1) cap z s w F (by rw[Nat.sub_add_cancel j];exact J) om (by simpa using G) (v.ok a) B a q N;simp only[o6];rw[gr j];exact this
 | sink=>
  cases A
  obtain⟨n,c0,c1,c2,c3,c4,sv,Y,Z,X,-,-,y,-⟩:=H.box;obtain⟨z,rfl,-⟩:=id (y.ok (r rfl)).ptr;refine⟨_,_,rfl,Tryz.call131,fun args i=>?_⟩;subst i;exact xi M S C x u z s w F (iD X).2.2.2.2.2.2.2.1 (y.ok (r rfl)) B (r rfl) q
end Go.Proofs.YtcfojmaccikgeaaGreatDoor
