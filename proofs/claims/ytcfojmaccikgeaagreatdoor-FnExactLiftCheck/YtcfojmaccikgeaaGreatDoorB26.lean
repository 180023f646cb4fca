import Derived.Deep.RegionHeld
import Derived.Deep.CutRange
import Derived.Test.YtcfojmaccikgeaaGreatDoorSL2
import Derived.Test.YtcfojmaccikgeaaGreatDoorB22
open Go.Value renaming slice→Zs,int→Zi,string→Zt,pointer→Zp,agg→Za,tuple→Zu,bool→Zb
open Go.IntKind renaming i64→Zk
open Go.Ending renaming returned→Zr
open Go.Obj renaming cells→Zc
open Option renaming none→Zn,some→Zo
open Go renaming World→Zw
open Nat renaming le_refl→Zl
open Go.RowKit.Below renaming heap_alloc→Zh
namespace Go.Proofs.YtcfojmaccikgeaaGreatDoor
open Go.RowKit Go.Proofs.Tryz
variable {P:Program} {md:Region.Mode} {ops:Array Oper} {Q:Exit->Act->Zw->Prop} {S:Zw->Prop} {fuel m i':Nat} {listed:Array Bool} {a:Act} {w:Zw} {oi:Oper} {s:ZN} {bad':Bool}
theorem tk (i:Nat) {v:Value} (h:wpAnyH P md ops Q S fuel (listed.setIfInBounds i true) (a.put oi.dst v) w)
  (hi:ops[i]?=Zo oi:=by rfl) (j:Region.noSelect ops=true:=by kernel_rfl) (f:Region.free md ops listed i=true:=by kernel_rfl) (g:(Region.ready md ops listed).contains i=true:=by kernel_rfl) (k:Region.wanted oi (yielded ops a.tmps)=true:=by kernel_rfl) (e:S w:=by assumption)
  (hy:∀b,S b->Sem.run P (execOp a.eval oi) b=.ok (.value v) b:=by (intro wq hSw;(try dsimp only at hSw);go_simp;first|done|with_reducible rfl)) (d:∀c a w,Q (.panic c) (a.put oi.dst v) w->Q (.panic c) a w:=by exact fun _ _ _ h=>h) :
  wpAnyH P md ops Q S (fuel+1) listed a w:=wpAnyH_take hi j f g d (.inl ⟨k,hy⟩) e h
theorem i6 (i:Nat) {o:Oper}
  (h:∀b:Act->Zw->Prop,Shut (∀a w,S w->(S w->wpAnyH P md ops Q S fuel (listed.setIfInBounds i true) a w)->b a w)->if Region.wanted o (yielded ops a.tmps)=true then Oper.wp P o a w b Q else b (a.put o.dst undef) w)
  (c:ops[i]?=Zo o:=by rfl) (d:Region.ready md ops listed=[i]:=by kernel_rfl):wpAnyH P md ops Q S (fuel+1) listed a w:=wpAnyH_ready d (by simp) (AllReadyH.cons c h AllReadyH.nil)
theorem ts (i:Nat) (h:wpAnyH P md ops Q S fuel (listed.setIfInBounds i true) (a.put oi.dst undef) w)
  (hi:ops[i]?=Zo oi:=by rfl) (g:Region.noSelect ops=true:=by kernel_rfl) (e:Region.free md ops listed i=true:=by kernel_rfl) (f:(Region.ready md ops listed).contains i=true:=by kernel_rfl) (j:Region.wanted oi (yielded ops a.tmps)=false:=by kernel_rfl) (d:S w:=by assumption) (b:∀c a w,Q (.panic c) (a.put oi.dst undef) w->Q (.panic c) a w:=by exact fun _ _ _ h=>h) :
  wpAnyH P md ops Q S (fuel+1) listed a w:=wpAnyH_take hi g e f b (.inr ⟨j,rfl⟩) d h
set_option maxRecDepth 100000
set_option maxHeartbeats 16000000
theorem l9(S:ZP)(w:Zw)(m:Nat)(x:Int)(a:(Lit.int Zk x).wf=true):a8 S w (m+1) (⟨x,[],[]⟩:Kd (K m)) (Zi Zk x) (Zs Zn 0 0) (Zs Zn 0 0):=
 ⟨rfl,a,⟨Zn,0,rfl,by simp[maxLen],fun s h=>(by cases h),fun h=>absurd rfl h⟩,⟨Zn,0,rfl,by simp[maxLen],fun h=>absurd rfl h⟩⟩
theorem iJ {N:Nat} (h:w.heap[N]?=Zo (Zc #[Zi Zk 0,Zs Zn 0 0,Zs Zn 0 0] 31 (0,0))) :
  (w.cell? ⟨N,0,Zn⟩=Zo (Zi Zk 0)/\w.cell? ⟨N,1,Zn⟩=Zo (Zs Zn 0 0)/\w.cell? ⟨N,2,Zn⟩=Zo (Zs Zn 0 0)) /\
   w.frozen? ⟨N,0,Zn⟩=false/\w.frozen? ⟨N,1,Zn⟩=false/\w.frozen? ⟨N,2,Zn⟩=false:=by refine⟨⟨?_,?_,?_⟩,?_,?_,?_⟩<;>simp[World.cell?,World.frozen?,h]
theorem B3 (n m R:Nat) (s:ZN) (i:Nat) (bad:Bool) (w:Zw) (h:jm w R s i bad) (b:bad=true∨n=0) (hi:bad=false->i<=s.size) :
  Calls prog 146 #[Zp (Zo ⟨R,0,Zn⟩),Zi Zk (7-(n:Int))] w (gU (m+1) n w R s i bad):=by
 have g:=h.lt;have e:pJ (m+1) n s i bad (⟨0,[],[]⟩:Kd (K m)) i true:=by
  refine⟨Zl _,fun h=>(by cases h),fun c=>(by have:=hi c;omega),fun _=>rfl,fun t0 f c l k=>?_⟩;rcases b with b|b;·rw[b]at c;cases c
  ·subst b;simp[fM]at k
 have d:Hid (∀o,gU (m+1) n w R s i bad (Zr (Za #[Zi Zk 0,Zs Zn 0 0,Zs Zn 0 0])) ((w.setCell ⟨R,2,Zn⟩ (Zb true)).alloc o)):=fun o=>⟨(b8.set R 2 w _).trans (b8.alloc _ _ _),_,_,_,_,i,true,rfl,l9 _ _ m 0 rfl,(Zh _ _ _ (by simpa using g)).trans (h.set2 true),e⟩;have c2:=h.cell2;have fz:=h.free 2;have a:bad=false->(6:Int)<7-(n:Int):=fun c=>by
  rcases b with b|b;·rw[b]at c;cases c
  ·omega
 clear e h;cases bad with
 | true=>clear a hi;go_in;go_wp2_with fail;refine bodyPost_ret (v:=Za #[Zi Zk 0,Zs Zn 0 0,Zs Zn 0 0]) (by simp[results,results146,go_sem]) rfl ?_;exact d.out _
 | false=>have j:=a rfl;clear a hi;go_in;go_wp2_with fail;refine bodyPost_ret (v:=Za #[Zi Zk 0,Zs Zn 0 0,Zs Zn 0 0]) (by simp[results,results146,go_sem]) rfl ?_;exact d.out _
theorem Jj (n m R:Nat) (s:ZN) (i:Nat) (w:Zw) (h:jm w R s i false) (D:s.size<=10000) (hi:i<=s.size) (r:fW s i=110) :
  Calls prog 146 #[Zp (Zo ⟨R,0,Zn⟩),Zi Zk (7-((n+1:Nat):Int))] w (gU (m+1) (n+1) w R s i false):=by
 have A:=h.lt;obtain⟨N,g,E,c2,z⟩:=lQ (k:=110) (Zc #[Zi Zk 0,Zs Zn 0 0,Zs Zn 0 0] 31) h (by rw[r];rfl);have o:¬(6:Int)<7-((n+1:Nat):Int):=om;have f:=a7 r;clear h r;generalize C:7-((n+1:Nat):Int)=dp at *;go_in;go_wp2_with fail;rw[<- g];clear g c2;refine z.out.mono ?_;rintro e L ⟨rfl,d,l,F,a⟩;have y:=a7 (lJ L R s ⟨#[110,117,109]⟩ i false l D zC hi);clear z l;go_wp2_with fail;refine y.out.mono ?_;rintro e M ⟨rfl,b,j⟩;have G:=b.size;obtain⟨⟨I,J,K⟩,f0,f1,f2⟩:=iJ ((b.block w.heap.size om om).trans a);have B:Hid (gU (m+1) (n+1) w R s i false (Zr (Za #[Zi Zk 1,Zs Zn 0 0,Zs Zn 0 0])) (iD M w.heap.size 0 (Zi Zk 1) (Zs Zn 0 0) (Zs Zn 0 0))):=by
  rcases j with ⟨t,H,u⟩|⟨t,u⟩;·exact lL (d.trans b) A u (l9 _ _ m 1 rfl) (mS (x:=⟨#[110,117,109]⟩) hi (.inl ⟨t,H,rfl,rfl⟩) zC (fun t0 c p q=>B9 f.out t0 c p q))
  ·exact lL (d.trans b) A u (l9 _ _ m 1 rfl) (mS (x:=⟨#[110,117,109]⟩) hi (.inr ⟨t,rfl,rfl⟩) zC (fun t0 c p q=>B9 f.out t0 c p q))
 clear y j b d a;go_wp2_with fail;refine bodyPost_ret (v:=Za #[Zi Zk 1,Zs Zn 0 0,Zs Zn 0 0]) (by simp[results,results146,go_sem,I,J,K]) rfl ?_;exact B.out
theorem Hy (n m R:Nat) (s:ZN) (i:Nat) (w:Zw) (h:jm w R s i false) (D:s.size<=10000) (hi:i<=s.size) (r:fW s i=116) :
  Calls prog 146 #[Zp (Zo ⟨R,0,Zn⟩),Zi Zk (7-((n+1:Nat):Int))] w (gU (m+1) (n+1) w R s i false):=by
 have A:=h.lt;obtain⟨N,g,E,c2,z⟩:=lQ (k:=116) (Zc #[Zi Zk 0,Zs Zn 0 0,Zs Zn 0 0] 31) h (by rw[r];rfl);have o:¬(6:Int)<7-((n+1:Nat):Int):=om;have f:=a7 r;clear h r;generalize C:7-((n+1:Nat):Int)=dp at *;go_in;go_wp2_with fail;rw[<- g];clear g c2;refine z.out.mono ?_;rintro e L ⟨rfl,d,l,F,a⟩;have y:=a7 (lJ L R s ⟨#[116,101,120,116]⟩ i false l D zC hi);clear z l;go_wp2_with fail;refine y.out.mono ?_;rintro e M ⟨rfl,b,j⟩;have G:=b.size;obtain⟨⟨I,J,K⟩,f0,f1,f2⟩:=iJ ((b.block w.heap.size om om).trans a);have B:Hid (gU (m+1) (n+1) w R s i false (Zr (Za #[Zi Zk 2,Zs Zn 0 0,Zs Zn 0 0])) (iD M w.heap.size 0 (Zi Zk 2) (Zs Zn 0 0) (Zs Zn 0 0))):=by
  rcases j with ⟨t,H,u⟩|⟨t,u⟩;·exact lL (d.trans b) A u (l9 _ _ m 2 rfl) (mS (x:=⟨#[116,101,120,116]⟩) hi (.inl ⟨t,H,rfl,rfl⟩) zC (fun t0 c p q=>zH f.out t0 c p q))
  ·exact lL (d.trans b) A u (l9 _ _ m 2 rfl) (mS (x:=⟨#[116,101,120,116]⟩) hi (.inr ⟨t,rfl,rfl⟩) zC (fun t0 c p q=>zH f.out t0 c p q))
 clear y j b d a;go_wp2_with fail;refine bodyPost_ret (v:=Za #[Zi Zk 2,Zs Zn 0 0,Zs Zn 0 0]) (by simp[results,results146,go_sem,I,J,K]) rfl ?_;exact B.out
theorem Hv (n m R:Nat) (s:ZN) (i:Nat) (w:Zw) (h:jm w R s i false) (D:s.size<=10000) (hi:i<=s.size) (r:fW s i=102) :
  Calls prog 146 #[Zp (Zo ⟨R,0,Zn⟩),Zi Zk (7-((n+1:Nat):Int))] w (gU (m+1) (n+1) w R s i false):=by
 have A:=h.lt;obtain⟨N,g,E,c2,z⟩:=lQ (k:=102) (Zc #[Zi Zk 0,Zs Zn 0 0,Zs Zn 0 0] 31) h (by rw[r];rfl);have o:¬(6:Int)<7-((n+1:Nat):Int):=om;have f:=a7 r;clear h r;generalize C:7-((n+1:Nat):Int)=dp at *;go_in;go_wp2_with fail;rw[<- g];clear g c2;refine z.out.mono ?_;rintro e L ⟨rfl,d,l,F,a⟩;have y:=a7 (lJ L R s ⟨#[102,108,97,103]⟩ i false l D zC hi);clear z l;go_wp2_with fail;refine y.out.mono ?_;rintro e M ⟨rfl,b,j⟩;have G:=b.size;obtain⟨⟨I,J,K⟩,f0,f1,f2⟩:=iJ ((b.block w.heap.size om om).trans a);have B:Hid (gU (m+1) (n+1) w R s i false (Zr (Za #[Zi Zk 3,Zs Zn 0 0,Zs Zn 0 0])) (iD M w.heap.size 0 (Zi Zk 3) (Zs Zn 0 0) (Zs Zn 0 0))):=by
  rcases j with ⟨t,H,u⟩|⟨t,u⟩;·exact lL (d.trans b) A u (l9 _ _ m 3 rfl) (mS (x:=⟨#[102,108,97,103]⟩) hi (.inl ⟨t,H,rfl,rfl⟩) zC (fun t0 c p q=>yv f.out t0 c p q))
  ·exact lL (d.trans b) A u (l9 _ _ m 3 rfl) (mS (x:=⟨#[102,108,97,103]⟩) hi (.inr ⟨t,rfl,rfl⟩) zC (fun t0 c p q=>yv f.out t0 c p q))
 clear y j b d a;go_wp2_with fail;refine bodyPost_ret (v:=Za #[Zi Zk 3,Zs Zn 0 0,Zs Zn 0 0]) (by simp[results,results146,go_sem,I,J,K]) rfl ?_;exact B.out
theorem Cd {S:ZP} {x:Int} {t:K m} {b c:Nat} {c0 c1 c2:Value} (j:(Lit.int Zk x).wf=true) (f:S b) (a:w.cell? ⟨b,0,Zn⟩=Zo c0) (d:w.cell? ⟨b,1,Zn⟩=Zo c1) (e:w.cell? ⟨b,2,Zn⟩=Zo c2) (g:a8 S w m t c0 c1 c2) :
  a8 S w (m+1) (⟨x,[],[t]⟩:Kd (K m)) (Zi Zk x) (Zs Zn 0 0) (Zs (Zo ⟨b,0,Zn⟩) 1 c):=by
 refine⟨rfl,j,⟨Zn,0,rfl,by simp[maxLen],fun s h=>(by cases h),fun h=>absurd rfl h⟩,⟨Zo ⟨b,0,Zn⟩,c,rfl,by simp[maxLen],fun _=>⟨b,0,rfl,f,fun i hi=>?_⟩⟩⟩;have:i=0:=by simpa using hi
 subst this;exact⟨c0,c1,c2,by simpa using a,by simpa using d,by simpa using e,g⟩
theorem F3 (n:Nat) (X:mH n) (m R:Nat) (s:ZN) (i:Nat) (w:Zw) (hm:n+1<=m) (aa:n<=6) (h:jm w R s i false) (Y:s.size<=10000) (hi:i<=s.size) (B:fW s i=63) :
  Calls prog 146 #[Zp (Zo ⟨R,0,Zn⟩),Zi Zk (7-((n+1:Nat):Int))] w (gU (m+1) (n+1) w R s i false):=by
 have hR:=h.lt;obtain⟨W1,u,ac,c2,J⟩:=lQ (Zc #[Zi Zk 0,Zs Zn 0 0,Zs Zn 0 0] 31) h rfl;have L:¬(6:Int)<7-((n+1:Nat):Int):=om;have K:=a7 B;have o:=a7 (yT B zC);have V:((fW s i).toNat:Nat)=63:=by rw[B];rfl
 rw[V]at J;have ab:IntKind.i64.wrap (7-((n+1:Nat):Int)+1)=7-(n:Int):=by rw[IntKind.wrap_i64];omega
 have Q:=a7 X;clear h B V X;generalize M:7-((n+1:Nat):Int)=dp at *;clear M;go_in;go_wp2_with fail;rw[<- u];clear u c2;refine J.out.mono ?_;rintro e w2 ⟨rfl,x,z,ad,a⟩;have O:=a7 (lJ w2 R s ⟨#[63]⟩ i false z Y zC hi);clear J z;go_wp2_with fail;refine O.out.mono ?_;rintro e w3 ⟨rfl,f,⟨r,q2,A⟩|⟨r,A⟩⟩;case inr=>have r:=r;rw[o.out.1]at r;cases r
 have A:=A;have ae:=f.size;have c:=(f.block w.heap.size om om).trans a;have k:=x.trans f;have W:=o.out.2;have P:=a7 (Q.out m R s (i+1) false w3 hm A Y (fun _=>om) om);clear O x f a r q2 A Q o;go_wp2_with fail;refine P.out.mono ?_;rintro e q ⟨g,t,d0,d1,d2,i1,S,rfl,N,p,T⟩;obtain⟨C,D,F,E,G,I,H,rfl,rfl,rfl⟩:=N.shape;have af:=g.size;have d:=(g.block w.heap.size om om).trans c;have l:=k.trans g;clear P c k;have j:=j8.new q (Zi Zk C) (Zs D F E) (Zs G I H) 31;have y:b8 R w (q.alloc (Zc #[Zi Zk C,Zs D F E,Zs G I H] 31)):=l.trans (b8.alloc _ _ _);obtain⟨⟨r0,r1,r2⟩,f0,f1,f2⟩:=iJ ((Zh q (Zc #[Zi Zk C,Zs D F E,Zs G I H] 31) w.heap.size om).trans d);have Z:Hid (gU (m+1) (n+1) w R s i false (Zr (Za #[Zi Zk 6,Zs Zn 0 0,Zs (Zo ⟨q.heap.size,0,Zn⟩) 1 1])) (iD (q.alloc (Zc #[Zi Zk C,Zs D F E,Zs G I H] 31)) w.heap.size 0 (Zi Zk 6) (Zs Zn 0 0) (Zs (Zo ⟨q.heap.size,0,Zn⟩) 1 1))):=by refine lL y hR ((Zh _ _ _ (by have:=p.lt;omega)).trans p) (Cd (t:=t) rfl ⟨om,zS⟩ j.c0 j.c1 j.c2 ?_) (DN K.out T);exact N.keep (fun b U=>Zh _ _ _ U.2) (fun b U=>⟨om,zE⟩)
 clear p T N j y d l g;go_wp2_with fail;refine bodyPost_ret (v:=Za #[Zi Zk 6,Zs Zn 0 0,Zs (Zo ⟨q.heap.size,0,Zn⟩) 1 1]) (by simp[results,results146,go_sem,r0,r1,r2]) rfl ?_;exact Z.out
theorem Hx (n:Nat) (I:mH n) (m R:Nat) (s:ZN) (i:Nat) (w:Zw) (hm:n+1<=m) (af:n<=6) (h:jm w R s i false) (hs:s.size<=10000) (hi:i<=s.size) (X:fW s i=91) :
  Calls prog 146 #[Zp (Zo ⟨R,0,Zn⟩),Zi Zk (7-((n+1:Nat):Int))] w (gU (m+1) (n+1) w R s i false):=by
 have hR:=h.lt;obtain⟨W1,Q,ah,c2,HL⟩:=lQ (Zc #[Zi Zk 0,Zs Zn 0 0,Zs Zn 0 0] 31) h rfl;have aa:¬(6:Int)<7-((n+1:Nat):Int):=om;have H:=a7 X;have G:=a7 (yT X zC);have L:((fW s i).toNat:Nat)=91:=by rw[X];rfl
 rw[L]at HL;have ag:IntKind.i64.wrap (7-((n+1:Nat):Int)+1)=7-(n:Int):=by rw[IntKind.wrap_i64];omega
 have HN:=a7 I;clear h X L I;generalize ab:7-((n+1:Nat):Int)=dp at *;clear ab;go_in;go_wp2_with fail;rw[<- Q];clear Q c2;refine HL.out.mono ?_;rintro e w2 ⟨rfl,T,U,ai,g⟩;have HE:=a7 (lJ w2 R s ⟨#[91]⟩ i false U hs zC hi);clear HL U;go_wp2_with fail;refine HE.out.mono ?_;rintro e w3 ⟨rfl,y,⟨x,q2,u⟩|⟨x,u⟩⟩;case inr=>have x:=x;rw[G.out.1]at x;cases x
 have u:=u;have aj:=y.size;have j:=(y.block w.heap.size om om).trans g;have D:=T.trans y;have ad:=G.out.2;have HK:=a7 (HN.out m R s (i+1) false w3 hm u hs (fun _=>om) om);clear HE T y g x q2 u HN G;go_wp2_with fail;refine HK.out.mono ?_;rintro e d ⟨z,t,d0,d1,d2,M,q,rfl,ht,A,hG⟩;obtain⟨Y,Z,ul,uc,ya,yl,yc,rfl,rfl,rfl⟩:=ht.shape;have ak:=z.size;have k:=(z.block w.heap.size om om).trans j;have E:=D.trans z;clear HK j D;obtain⟨l,p⟩:=ii ((d.alloc (Zc #[Zi Zk Y,Zs Z ul uc,Zs ya yl yc] 31)).alloc (Zc #[Zi Zk 4,Zs Zn 0 0,Zs (Zo ⟨d.heap.size,0,Zn⟩) 1 1] 31));have al:l.heap.size=d.heap.size+2:=by rw[p];simp
 have f:Bw d l:=by rw[p];exact (gx _ _).alloc zS _
 have B:j8 l d.heap.size (Zi Zk Y) (Zs Z ul uc) (Zs ya yl yc):=by rw[p];exact (j8.new d (Zi Zk Y) (Zs Z ul uc) (Zs ya yl yc) 31).keep (gx _ _)
 have r:j8 l (d.heap.size+1) (Zi Zk 4) (Zs Zn 0 0) (Zs (Zo ⟨d.heap.size,0,Zn⟩) 1 1):=by have:=j8.new (d.alloc (Zc #[Zi Zk Y,Zs Z ul uc,Zs ya yl yc] 31)) (Zi Zk 4) (Zs Zn 0 0) (Zs (Zo ⟨d.heap.size,0,Zn⟩) 1 1) 31;rw[p];simpa using this
 have J:=(f.block R A.lt).trans A;have ae:=A.lt;obtain⟨g1,g2,g3,g4,g5⟩:=id hG;have g3:=g3 rfl;have W:=a7 hG;have O:Hid (Calls prog 178 #[Zp (Zo ⟨R,0,Zn⟩),Zt ⟨#[93]⟩] l fun e F=>e=Zr (Zu #[])/\b8 R l F/\∃(i':Nat)(C:Bool),jm F R s i' C/\pJ (m+1) (n+1) s i false (⟨4,[],[t]⟩:Kd (K m)) i' C):=by
  by_cases S:M<=s.size
  ·refine (lJ l R s ⟨#[93]⟩ M q J hs zC S).mono ?_;rintro e F ⟨rfl,I,⟨x,q2,u⟩|⟨x,u⟩⟩;·exact⟨rfl,I,M+1,q,u,tA H.out W.out (.inl ⟨x,q2,rfl,rfl⟩)⟩
   ·exact⟨rfl,I,M,true,u,tA H.out W.out (.inr ⟨fun _=>x,rfl,rfl⟩)⟩
  ·refine (Hg l R s ⟨#[93]⟩ M q J zC (by have:(⟨#[93]⟩:ZN).size=1:=rfl;omega) om).mono ?_;rintro e F ⟨rfl,I,u⟩;exact⟨rfl,I,M,true,u,tA H.out W.out (.inr ⟨fun hf=>absurd (g2 hf).2.2 S,rfl,rfl⟩)⟩
 have HT:=a7 ht;clear hG A J ht g1 g2 g3 g4 g5;go_wp2_with fail;rw[<- p];clear p;refine O.out.mono ?_;rintro e N ⟨rfl,c,i2,ac,V,P⟩;have am:=c.size;have y6:=r.c0;have k0:=(World.cell?_of_block (w:=l) (w':=N) (a:=⟨d.heap.size+1,0,Zn⟩) (c.block (d.heap.size+1) om om)).trans r.c0;have k1:=(World.cell?_of_block (w:=l) (w':=N) (a:=⟨d.heap.size+1,1,Zn⟩) (c.block (d.heap.size+1) om om)).trans r.c1;have k2:=(World.cell?_of_block (w:=l) (w':=N) (a:=⟨d.heap.size+1,2,Zn⟩) (c.block (d.heap.size+1) om om)).trans r.c2;obtain⟨⟨r0,r1,r2⟩,f0,f1,f2⟩:=iJ ((c.block w.heap.size om om).trans ((f.block _ om).trans k));have HP:Hid (gU (m+1) (n+1) w R s i false (Zr (Za #[Zi Zk 4,Zs Zn 0 0,Zs (Zo ⟨d.heap.size,0,Zn⟩) 1 1])) (iD N w.heap.size 0 (Zi Zk 4) (Zs Zn 0 0) (Zs (Zo ⟨d.heap.size,0,Zn⟩) 1 1))):=by have L:∀o,N.cell? ⟨d.heap.size,o,Zn⟩=l.cell? ⟨d.heap.size,o,Zn⟩:=fun o=>World.cell?_of_block (w:=l) (w':=N) (a:=⟨d.heap.size,o,Zn⟩) (c.block d.heap.size om om);refine lL ((E.trans (b8.of_below f)).trans c) hR V (Cd (t:=t) rfl ⟨om,om⟩ ((L 0).trans B.c0) ((L 1).trans B.c1) ((L 2).trans B.c2) ?_) P;refine HT.out.keep (fun b hb=>?_) (fun b hb=>⟨om,om⟩);rw[c.block b om om,f.block b hb.2]
 clear O c V P B r y6 f k E z HT W;go_wp2_with fail;refine bodyPost_ret (v:=Za #[Zi Zk 4,Zs Zn 0 0,Zs (Zo ⟨d.heap.size,0,Zn⟩) 1 1]) (by simp[results,results146,go_sem,r0,r1,r2]) rfl ?_;exact HP.out
theorem Tryz.info_strR:(prog.info? 9).map (fun i=>(i.zero,i.size,i.bytes))=Zo (Zo (Zt ⟨#[]⟩),1,16):=by kernel_rfl
theorem Tryz.info_kindR:(prog.info? 31).map (fun i=>(i.zero,i.size,i.bytes))=Zo (Zo (Za #[Zi Zk 0,Zs Zn 0 0,Zs Zn 0 0]),3,56):=by kernel_rfl
theorem C8 {n R i:Nat} {c wr:Zw} {r:List ZN} {l:List (K m)} {p o:Value} (j:jo R c.heap.size m c wr 5 r l p o) (k:b8 R w c) (t:R<w.heap.size) (z:w.heap.size+1<=c.heap.size) (y:jm wr R s i' bad') (q:li m n s i r l i' bad') (D:s.size<=10000) (x:n<=6)
  (d:¬fW s i=110) (e:¬fW s i=116) (f:¬fW s i=102) (g:¬fW s i=63) (h:¬fW s i=91) (a:bad'=false->fW s i'=125) :
  gU (m+1) (n+1) w R s i false (Zr (Za #[Zi Zk 5,p,o])) (iD (wr.setCell ⟨R,1,Zn⟩ (Zi Zk ((i':Int)+1))) w.heap.size 0 (Zi Zk 5) p o):=by
 have u:=FJ d e f g h q a;obtain⟨E,F,G,B,H,-⟩:=q;have A:=j.near.size;have v:l.length<=20000:=by cases bad'<;>simp at B<;>omega
 refine lL ((k.trans j.near).trans (b8.set R 1 _ _)) t (by have:=y.set1 ((i':Int)+1);simpa using this) ?_ u;exact AQ j (fun b C=>Below.heap_setCell _ _ _ _ (by show b≠R;omega)) zS om v om
theorem Hw (n:Nat) (hn:mH n) (m R:Nat) (s:ZN) (i:Nat) (w:Zw) (hm:n+1<=m) (bx:n<=6) (h:jm w R s i false) (hs:s.size<=10000) (hi:i<=s.size)
  (ay:¬fW s i=110) (az:¬fW s i=116) (aA:¬fW s i=102) (aB:¬fW s i=63) (aC:¬fW s i=91) :
  Calls prog 146 #[Zp (Zo ⟨R,0,Zn⟩),Zi Zk (7-((n+1:Nat):Int))] w (gU (m+1) (n+1) w R s i false):=by
 have hR:=h.lt;obtain⟨W1,aS,bT,c2,HL⟩:=lQ (Zc #[Zi Zk 0,Zs Zn 0 0,Zs Zn 0 0] 31) h rfl;have bu:¬(6:Int)<7-((n+1:Nat):Int):=om;have t:∀c:UInt8,¬fW s i=c->((((fW s i).toNat:Nat):Int)==(c.toNat:Int))=false:=fun c hc=>by rw[beq_eq_false_iff_ne];intro e;apply hc;apply UInt8.toNat_inj.1;omega
 have e1:((((fW s i).toNat:Nat):Int)==110)=false:=t 110 ay;have e2:((((fW s i).toNat:Nat):Int)==116)=false:=t 116 az;have e3:((((fW s i).toNat:Nat):Int)==102)=false:=t 102 aA;have e4:((((fW s i).toNat:Nat):Int)==63)=false:=t 63 aB;have e5:((((fW s i).toNat:Nat):Int)==91)=false:=t 91 aC;have T:Hid (¬fW s i=110/\¬fW s i=116/\¬fW s i=102/\¬fW s i=63/\¬fW s i=91):=⟨ay,az,aA,aB,aC⟩;have bR:IntKind.i64.wrap (7-((n+1:Nat):Int)+1)=7-(n:Int):=by rw[IntKind.wrap_i64];omega
 have HN:Hid (mH n):=hn;clear h hn t ay az aA aB aC;generalize bv:7-((n+1:Nat):Int)=dp at *;clear bv;generalize ((fW s i).toNat:Nat)=cc at *;go_in;go_wp2_with fail;rw[<- aS];clear aS c2;refine HL.out.mono ?_;rintro e w2 ⟨rfl,B,aa,bU,M⟩;have HE:Hid (Calls prog 178 #[Zp (Zo ⟨R,0,Zn⟩),Zt ⟨#[123]⟩] w2 _):=lJ w2 R s ⟨#[123]⟩ i false aa hs zC hi;clear HL aa;go_wp2_with fail;refine HE.out.mono ?_;rintro e b ⟨rfl,an,H⟩;have bV:=an.size;have N:=(an.block w.heap.size om om).trans M;have au:=B.trans an;obtain⟨i0,G,S,aQ⟩:∃(i0:Nat)(G:Bool),jm b R s i0 G/\li m n s i [] [] i0 G:=by
  rcases H with ⟨q1,q2,q3⟩|⟨q1,q3⟩;·exact⟨i+1,false,q3,te hi (.inl ⟨q1,q2,rfl,rfl⟩)⟩
  ·exact⟨i,true,q3,te hi (.inr ⟨q1,rfl,rfl⟩)⟩
 have ap:Hid (b8 R w b/\b.heap[w.heap.size]?=Zo (Zc #[Zi Zk 0,Zs Zn 0 0,Zs Zn 0 0] 31 (0,0))):=⟨au,N⟩;have be:jm (b.alloc (Zc #[Zi Zk 5,Zs Zn 0 0,Zs Zn 0 0] 31)) R s i0 G:=(Zh _ _ _ S.lt).trans S;clear HE H B an M N au S e1 e2 e3 e4 e5;go_wp2;go_loopw [71] (fun _ wr=>∃(I:List ZN)(J:List (K m))(j a:Nat)(f:Bool)(na:ZO)(L:Nat)(C:ZO)(D:Nat),I.length=a/\J.length=a/\jo R b.heap.size m b wr 5 I J (Zs na a L) (Zs C a D)/\jm wr R s j f/\li m n s i I J j f) (fun _ wr=>leftRK wr R s.size);case atStart=>exact⟨[],[],i0,0,G,Zn,0,Zn,0,rfl,rfl,jo.start,be,aQ⟩
 case round=>
  obtain⟨I,J,j,a,f,na,L,C,D,ba,aI,hM,hr,hI⟩:=hrel;have hX:=hM.lt;have bW:=hM.near.size;have x0:wr.cell? ⟨b.heap.size,0,Zn⟩=Zo (Zi Zk 5):=by simp[World.cell?,hM.box]
  have x1:wr.cell? ⟨b.heap.size,1,Zn⟩=Zo (Zs na a L):=by simp[World.cell?,hM.box]
  have x2:wr.cell? ⟨b.heap.size,2,Zn⟩=Zo (Zs C a D):=by simp[World.cell?,hM.box]
  have d1:=hr.cell1;have d2:=hr.cell2;have df:=hr.free 1;have br:=hI;obtain⟨bN,aV,bO,am,-,-⟩:=br;rw[aI]at am;have l:Hid (I.length=a/\J.length=a):=⟨ba,aI⟩;have HM:Hid (jo R b.heap.size m b wr 5 I J (Zs na a L) (Zs C a D)):=hM;have HR:Hid (jm wr R s j f):=hr;have HI:Hid (li m n s i I J j f):=hI;have bS:IntKind.i64.wrap ((j:Int)+1)=(j:Int)+1:=by rw[IntKind.wrap_i64];omega
  have bG:a<=10010:=by cases f<;>simp at am<;>omega
  obtain⟨⟨r0,r1,r2⟩,f0,f1,f2⟩:=iJ ((hM.near.block w.heap.size om om).trans ap.out.2);have F:Hid ((f=false->fW s j=125)->∀q,gU (m+1) (n+1) w R s i false (Zr (Za #[Zi Zk 5,Zs na a L,Zs C a D])) (iD ((wr.drewN q).setCell ⟨R,1,Zn⟩ (Zi Zk ((j:Int)+1))) w.heap.size 0 (Zi Zk 5) (Zs na a L) (Zs C a D))):=fun he q=>C8 (HM.out.keep om ((b8.refl R wr).drewN q)) ap.out.1 hR om (HR.out.drewN q) HI.out hs bx T.out.1 T.out.2.1 T.out.2.2.1 T.out.2.2.2.1 T.out.2.2.2.2 he;clear hM hr hI ba aI be aQ;cases f with
  | true=>have HZ:Hid _:=F.out (fun h=>by cases h) 0;clear F;go_wp2_with fail;refine bodyPost_ret (v:=Za #[Zi Zk 5,Zs na a L,Zs C a D]) (by simp[results,results146,go_sem,r0,r1,r2]) rfl ?_;exact HZ.out
  | false=>
   have aH:j<=s.size:=(aV rfl).2;have bP:a<=j:=by simpa using am
   clear aV am;have HL:Hid (Calls prog 177 #[Zp (Zo ⟨R,0,Zn⟩)] wr fun e w'=>e=Zr (Zi .u8 ((fW s j).toNat:Int))/\∃m',w'=wr.drewN m'):=tC wr R s j false HR.out;by_cases y:fW s j=125
   ·have hc:((fW s j).toNat:Nat)=125:=by rw[y];rfl
    rw[hc]at HL;have HZ:Hid (∀q,_):=F.out (fun _=>y);clear F y hc;go_wp2_with (go_at_call 177;refine HL.out.mono ?_;rintro e w' ⟨rfl,nq,rfl⟩);refine bodyPost_ret (v:=Za #[Zi Zk 5,Zs na a L,Zs C a D]) (by simp[results,results146,go_sem,r0,r1,r2]) rfl ?_;exact HZ.out nq
   ·have bz:((((fW s j).toNat:Nat):Int)==125)=false:=by rw[beq_eq_false_iff_ne];intro e;apply y;apply UInt8.toNat_inj.1;have bF:(125:UInt8).toNat=125:=rfl;omega
    have bI:((((fW s j).toNat:Nat):Int) != 125)=true:=by simp[bne,bz]
    have HE:Hid (¬fW s j=125):=y;have bM:(((fW s j).toNat:Nat):Int)<=255:=by have:=(fW s j).toNat_lt;omega
    clear y F r0 r1 r2 f0 f1 f2;generalize ((fW s j).toNat:Nat)=c at *;rcases Nat.eq_zero_or_pos a with h0|h0;case' inl=>have hd:(0<a)=False:=eq_false om;have bt:((0:Int)<(a:Int))=False:=eq_false om;have ae:Hid (vX s a j j false):=.inl ⟨h0,rfl,rfl⟩;clear h0;go_wp2_with (go_at_call 177;refine HL.out.mono ?_;rintro e w' ⟨rfl,nq,rfl⟩);have aK:b8 R wr (wr.drewN nq):=(b8.refl R wr).drewN nq;have Z:jm (wr.drewN nq) R s j false:=HR.out.drewN nq;generalize wr.drewN nq=w1 at *;obtain⟨E,d,Z,ae,V⟩:∃(E:Nat)(d:Bool),jm w1 R s E d/\Hid (vX s a j E d)/\E<=s.size:=⟨j,false,Z,ae,aH⟩;clear hd bt
    case' inr=>
     have hd:(0:Int)<(a:Int):=om;go_wp2_with (go_at_call 177;refine HL.out.mono ?_;rintro e w' ⟨rfl,nq,rfl⟩);refine (lJ _ R s ⟨#[44]⟩ j false (HR.out.drewN nq) hs zC aH).mono ?_;rintro e w1 ⟨rfl,aY,H⟩;obtain⟨E,d,Z,ae,V⟩:∃(E:Nat)(d:Bool),jm w1 R s E d/\Hid (vX s a j E d)/\E<=s.size:=by
      rcases H with ⟨he,hz,h⟩|⟨he,h⟩;·exact⟨j+1,false,h,.inr ⟨om,.inl ⟨he,hz,rfl,rfl⟩⟩,hz⟩
      ·exact⟨j,true,h,.inr ⟨om,.inr ⟨he,rfl,rfl⟩⟩,aH⟩
     have aK:b8 R wr w1:=((b8.refl R wr).drewN nq).trans aY;clear H aY hd h0
    all_goals
     have P:Hid (jo R b.heap.size m b w1 5 I J (Zs na a L) (Zs C a D)):=HM.out.keep om aK
     have aE:=P.out.lt
     have bj:w1.cell? ⟨b.heap.size,1,Zn⟩=Zo (Zs na a L):=by simp[World.cell?,P.out.box]
     obtain⟨x,ax⟩:∃x,Hid (bs ((s.data.toList.drop E).takeWhile gC)=x):=⟨_,rfl⟩
     obtain⟨j1,HJ⟩:∃j1,Hid (E+((s.data.toList.drop E).takeWhile gC).length=j1):=⟨_,rfl⟩
     have aO:Hid (Calls prog 179 #[Zp (Zo ⟨R,0,Zn⟩)] w1.drew fun e w'=>e=Zr (Zt x)/\b8 R w1.drew w' /\ jm w' R s (j1:Int) d):=
      (Gc w1.drew R s E d (Z.drewN 1) hs V).mono fun e w' ⟨h1,h2,h3,_⟩=>⟨by rw[h1,ax.out],h2,by rw[HJ.out]at h3;exact h3⟩
     have HT:Hid ((bs ((s.data.toList.drop E).takeWhile gC)).size<=10000/\E+((s.data.toList.drop E).takeWhile gC).length<=s.size):=by
      have h1:((s.data.toList.drop E).takeWhile gC).length<=(s.data.toList.drop E).length:=(List.takeWhile_prefix _).length_le
      rw[List.length_drop]at h1
      have h2:s.data.toList.length=s.size:=zS
      exact⟨by rw[gq];omega,om⟩
     rw[ax.out,HJ.out]at HT
     have aW:=HT.out.2
     have aj:Hid (w1.ownsRow (b.heap.size+1) 9 1 (Zs na a L) a (I.map Zt)):=by
      have:=P.out.names
      rw[l.out.1]at this;exact this
     obtain⟨bB,U,ab,ac,ad⟩:=info_parts Tryz.info_strR
     have ag:Hid (_/\_/\_/\_):=⟨U,ab,ac,ad⟩
     clear U ab ac ad Z x0 x1 x2 d1 d2 df HL HM aK
     go_upto_region 27 with fail
     go_cut [71] from 62 to 95 (fun _ wx=>∃g cap,jo R b.heap.size m b wx 5 (I++[x]) J (Zs (Zo ⟨g,0,Zn⟩) (a+1) cap) (Zs C a D)/\jm wx R s (j1:Int) d)
     case first=>
      go_region_law (first
       | (refine step_append_lies _ (by rfl) (.tmp 79) (.tmp 82) 23 (by rfl) (b.heap.size+1) 9 bB _ 1 16 underlying23 ag.out.1 ag.out.2.1 ag.out.2.2.1 ag.out.2.2.2 rfl zC (Zs na a L) a (I.map Zt) (by rfl) (bc _) ⟨w2.heap.size,0,Zn⟩ 1 1 [Zt x] (by rfl) rfl (World.news_of_block (heap_alloc_new w2 _)) (by simp[Value.oneCell']) zC (by unfold maxLen;omega) om zE (w2.heap.size+1) zS ?_;intro g cap ao av A aU bQ;have aF:=(sR (W:=w1.drew) aj.out aE om B A).trans P.out.box;have bi:ao.cell? ⟨b.heap.size,1,Zn⟩=Zo (Zs na a L):=(by simp[World.cell?,aF]);have bm:ao.frozen? ⟨b.heap.size,1,Zn⟩=false:=(by simp[World.frozen?,aF]))
       | (go_simp;go_at_call 179;refine aO.out.mono ?_;rintro e w2 ⟨rfl,B,aa⟩;have bg:w1.heap.size<=w2.heap.size:=B.size;have bc:=fun o=>zg (R:=R) (X:=b.heap.size) (W:=w1.drew) aj.out om B o;have bh:w2.cell? ⟨b.heap.size,1,Zn⟩=Zo (Zs na a L):=(World.cell?_of_block (B.block b.heap.size (by simpa using aE) om)).trans bj;have bC:(w2.alloc (Zc #[Zt x] 9)).cell? ⟨b.heap.size,1,Zn⟩=Zo (Zs na a L):=(World.cell?_of_block (Zh _ _ _ (by show b.heap.size<_;omega))).trans bh))
      all_goals
       have Q:=jo.name (W:=w2) (Wa:=w2.alloc (Zc #[Zt x] 9)) (one:=Zc #[Zt x] 9) (P.out.keep om (((b8.refl R w1).drewN 1).trans B)) (Zl _) rfl ⟨rfl,rfl,rfl⟩ HT.out.1 (by rw[l.out.1];exact av) A aU
       rw[l.out.1]at Q
       have ah:Hid (jo R b.heap.size m b (ao.setCell ⟨b.heap.size,1,Zn⟩ (Zs (Zo ⟨g,0,Zn⟩) (a+1) cap)) 5 (I++[x]) J (Zs (Zo ⟨g,0,Zn⟩) (a+1) cap) (Zs C a D)):=Q
       have ak:Hid (jm (ao.setCell ⟨b.heap.size,1,Zn⟩ (Zs (Zo ⟨g,0,Zn⟩) (a+1) cap)) R s (j1:Int) d):=vO (X:=b.heap.size) (q:=1) (W:=w1.drew) aa aj.out om A
       clear Q av A aU B aa bc bh bC bi bm aF
       go_wp2
       go_meet
       exact⟨_,_,ah.out,ak.out⟩
     case rest=>
      obtain⟨g,cap,Q,aR⟩:=hcut
      have ah:Hid (jo R b.heap.size m b wc 5 (I++[x]) J (Zs (Zo ⟨g,0,Zn⟩) (a+1) cap) (Zs C a D)):=Q
      have ak:Hid (jm wc R s (j1:Int) d):=aR
      clear Q aR bj aO P aj aE
      go_wp2_with fail
      refine (lJ wc R s ⟨#[58]⟩ j1 d ak.out hs zC aW).mono ?_
      rintro e O ⟨rfl,aZ,H⟩
      obtain⟨i3,p,S,bp,bb,aJ⟩:∃(i3:Nat)(p:Bool),jm O R s i3 p/\Hid (EO s j1 i3 d p)/\(p=false->i3<=s.size)/\i3<=20000:=by
       rcases H with ⟨he,hz,h⟩|⟨he,h⟩
       ·exact⟨j1+1,d,h,.inl ⟨he,hz,rfl,rfl⟩,fun _=>hz,by have:(⟨#[58]⟩:ZN).size=1:=rfl;omega⟩
       ·exact⟨j1,true,h,.inr ⟨he,rfl,rfl⟩,(fun h=>by cases h),om⟩
      have aD:=ah.out.keep om aZ
      have ai:Hid (jo R b.heap.size m b O 5 (I++[x]) J (Zs (Zo ⟨g,0,Zn⟩) (a+1) cap) (Zs C a D)):=aD
      obtain⟨xs,aM,aX⟩:=aD.kids
      have bq:Hid (∀q (h:q<J.length),_):=aX
      have al:Hid (O.ownsRow (b.heap.size+1) 31 3 (Zs C a D) a xs):=by
       rw[l.out.2]at aM;exact aM
      have aT:=ai.out.lt
      have bE:O.cell? ⟨b.heap.size,2,Zn⟩=Zo (Zs C a D):=by simp[World.cell?,ai.out.box]
      have bo:Hid (Calls prog 146 #[Zp (Zo ⟨R,0,Zn⟩),Zi Zk (7-(n:Int))] O.drew (gU m n O.drew R s i3 p)):=HN.out m R s i3 p _ hm (S.drewN 1) hs bb aJ
      obtain⟨bA,U,ab,ac,ad⟩:=info_parts Tryz.info_kindR
      have af:Hid (_/\_/\_/\_):=⟨U,ab,ac,ad⟩
      clear U ab ac ad aM aX aD H S aZ ah ak
      go_wp2_with fail
      go_region_law (first
       | (refine step_append_lies _ (by rfl) (.tmp 88) (.tmp 93) 29 (by rfl) (b.heap.size+1) 31 bA _ 3 56 underlying29 af.out.1 af.out.2.1 af.out.2.2.1 af.out.2.2.2 rfl zC (Zs C a D) a xs (by rfl) (aw _) ⟨v2.heap.size,0,Zn⟩ 1 1 [Zi Zk y0,Zs ya yl yc,Zs za zl zc] (by rfl) rfl (World.news_of_block (heap_alloc_new v2 _)) (by simp[Value.oneCell']) zC (by unfold maxLen;omega) om zE (v2.heap.size+1) zS ?_;intro g2 r v3 Y k ar bH;have aG:=(sR (W:=O.drew) al.out aT om z k).trans ai.out.box;have bl:v3.cell? ⟨b.heap.size,2,Zn⟩=Zo (Zs C a D):=(by simp[World.cell?,aG]);have bn:v3.frozen? ⟨b.heap.size,2,Zn⟩=false:=(by simp[World.frozen?,aG]))
       | (go_simp;go_at_call 146;refine bo.out.mono ?_;rintro e v2 ⟨z,t2,bJ,bK,bL,i2,aq,rfl,aL,bf,bd⟩;obtain⟨y0,ya,yl,yc,za,zl,zc,rfl,rfl,rfl⟩:=aL.shape;have bg:O.heap.size<=v2.heap.size:=z.size;have aw:=fun o=>zg (R:=R) (X:=b.heap.size) (W:=O.drew) al.out om z o;have bk:v2.cell? ⟨b.heap.size,2,Zn⟩=Zo (Zs C a D):=(World.cell?_of_block (z.block b.heap.size (by simpa using aT) om)).trans bE;have bD:(v2.alloc (Zc #[Zi Zk y0,Zs ya yl yc,Zs za zl zc] 31)).cell? ⟨b.heap.size,2,Zn⟩=Zo (Zs C a D):=(World.cell?_of_block (Zh _ _ _ (by show b.heap.size<_;omega))).trans bk))
      all_goals
       have hF:=jo.kid (W:=O.drew) (W1:=v2) (Wa:=v2.alloc (Zc #[Zi Zk y0,Zs ya yl yc,Zs za zl zc] 31)) (one:=Zc #[Zi Zk y0,Zs ya yl yc,Zs za zl zc] 31) (g:=g2) (cap:=r) (xs:=xs)
        (ai.out.keep om ((b8.refl R O).drewN 1)) om (Zl _) z aL rfl ⟨rfl,rfl,rfl⟩ (by rw[l.out.2];exact al.out)
        (fun q hq=>by obtain⟨a0,a1,a2,hd,bw⟩:=bq.out q hq;exact⟨a0,a1,a2,hd,a8.keep (w:=O) (w':=O.drew) (fun _ _=>rfl) (fun _ h=>h) bw⟩) (by rw[l.out.2];exact Y) k ar
       rw[l.out.2]at hF
       have HF:Hid (jo R b.heap.size m b (v3.setCell ⟨b.heap.size,2,Zn⟩ (Zs (Zo ⟨g2,0,Zn⟩) (a+1) r)) 5 (I++[x]) (J++[t2]) (Zs (Zo ⟨g,0,Zn⟩) (a+1) cap) (Zs (Zo ⟨g2,0,Zn⟩) (a+1) r)):=hF
       have aN:Hid (jm (v3.setCell ⟨b.heap.size,2,Zn⟩ (Zs (Zo ⟨g2,0,Zn⟩) (a+1) r)) R s i2 aq):=vO (X:=b.heap.size) (q:=2) (u:=Zs (Zo ⟨g2,0,Zn⟩) (a+1) r) (W:=O.drew) bf al.out om k
       have HS:=Av HI.out HE.out (by rw[l.out.2];exact ae.out) (by rw[HJ.out];exact bp.out) bd (by rw[HJ.out];exact aW)
       rw[ax.out]at HS
       have aP:Hid _:=HS
       clear hF HS Y k ar aL bf bd z aw bk bD bl bn aG
       go_wp2
       go_roundw
       case rel=>exact⟨I++[x],J++[t2],i2,a+1,aq,Zo ⟨g,0,Zn⟩,cap,Zo ⟨g2,0,Zn⟩,r,by simp[l.out.1],by simp[l.out.2],HF.out,aN.out,aP.out.1⟩
       case measure=>rw[jm.leftRK aN.out,jm.leftRK HR.out];simpa using aP.out.2
theorem AL:∀n,n<=6->mH n:=by
 intro n;induction n with
 | zero=>intro _ m R s i bad w l h b hi _;obtain⟨a,rfl⟩:∃a,m=a+1:=⟨m-1,om⟩;exact B3 0 a R s i bad w h (.inr rfl) hi
 | succ n p=>
  intro o m R s i bad w l h b hi k;obtain⟨a,rfl⟩:∃a,m=a+1:=⟨m-1,om⟩;have c:=p om;cases bad with
  | true=>exact B3 (n+1) a R s i true w h (.inl rfl) hi
  | false=>
   have hi:=hi rfl;by_cases d:fW s i=110;·exact Jj n a R s i w h b hi d
   by_cases e:fW s i=116;·exact Hy n a R s i w h b hi e
   by_cases f:fW s i=102;·exact Hv n a R s i w h b hi f
   by_cases g:fW s i=63;·exact F3 n c a R s i w om om h b hi g
   by_cases j:fW s i=91;·exact Hx n c a R s i w om om h b hi j
   ·exact Hw n c a R s i w om om h b hi d e f g j
def kH(m:Nat)(k:K m)(ok:Bool)(w:Zw)(e:Ending)(w':Zw):Prop:=
 Bw w w' /\ ∃c0 c1 c2,e=Zr (Zu #[Za #[c0,c1,c2],Zb ok])/\a8 (fun b=>w.heap.size<=b/\b<w'.heap.size) w' m k c0 c1 c2
theorem vP{w':Zw}(h:iZ (m+1) s=Zn)(c:Bw w w'):kH (m+1) (pQ m s) (Cb m s) w (Zr (Zu #[Za #[Zi Zk 0,Zs Zn 0 0,Zs Zn 0 0],Zb false])) w':=by obtain⟨a,b⟩:=vo h;rw[a,b];exact⟨c,_,_,_,rfl,zT _ _ m⟩
theorem FQ{t:K (m+1)}(d:pJ (m+1) 6 s 0 false t i' bad')(k:K (m+1))(h:iZ (m+1) s=Zo k):t=k/\bad'=false/\i'=s.size/\gF (m+1) t=true/\fI (m+1) t=s.data.toList:=by obtain⟨i,a,b⟩:=kr h;obtain⟨-,-,-,-,c⟩:=d;obtain⟨e,f,g⟩:=c k [] rfl (by rw[List.drop_zero,List.append_nil,b]) (iw a).1;subst e;refine⟨rfl,f,?_,a,b⟩;rw[g,b];simp
theorem pY{t:K (m+1)}(a:pJ (m+1) 6 s 0 false t i' bad')(h:bad'=true∨i'≠s.size∨gF (m+1) t=false∨fI (m+1) t≠s.data.toList):iZ (m+1) s=Zn:=by
 cases hr:iZ (m+1) s with
 | none=>rfl
 | some k=>
  obtain⟨-,b,c,d,e⟩:=FQ a k hr;rcases h with h|h|h|h;·rw[b]at h;cases h
  ·exact absurd c h
  ·rw[d]at h;cases h
  ·exact absurd e h
theorem mD (s:ZN) (m:Nat) (hm:7<=m+1) (hs:s.size<=1048576) (w:Zw) :
  Calls prog 103 #[Zt s] w (kH (m+1) (pQ m s) (Cb m s) w):=by
 obtain⟨W1,A⟩:=ii (w.alloc (Zc #[Zi Zk 0,Zs Zn 0 0,Zs Zn 0 0] 31));have ab:W1.heap.size=w.heap.size+1:=by rw[A];simp
 have H:Bw w W1:=by rw[A];exact gx _ _
 have l:W1.heap[w.heap.size]?=Zo (Zc #[Zi Zk 0,Zs Zn 0 0,Zs Zn 0 0] 31 (0,0)):=by rw[A];exact heap_alloc_new _ _
 have K:Hid (∀W:Zw,Bw w W->Bw w (iD W w.heap.size 0 (Zi Zk 0) (Zs Zn 0 0) (Zs Zn 0 0))):=fun W h=>js h (Zl _);by_cases h8:s.size<=800;case neg=>have ag:(800:Int)<(s.size:Int):=om;have r:Hid (∀o,kH (m+1) (pQ m s) (Cb m s) w (Zr (Zu #[Za #[Zi Zk 0,Zs Zn 0 0,Zs Zn 0 0],Zb false])) (w.alloc o)):=fun o=>vP (tO h8) (gx _ _);clear H l ab h8;go_in;go_wp2_with fail;refine bodyPost_ret (v:=Zu #[Za #[Zi Zk 0,Zs Zn 0 0,Zs Zn 0 0],Zb false]) (by simp[results,results103,go_sem]) rfl ?_;exact r.out _
 have ah:¬(800:Int)<(s.size:Int):=om;obtain⟨Y,x⟩:=ii (W1.alloc (Zc #[Zt s,Zi Zk 0,Zb false] 212));have ai:Y.heap.size=w.heap.size+2:=by rw[x];simp;omega
 have B:Bw w Y:=by rw[x];exact H.alloc H.size _
 have aa:jm Y (w.heap.size+1) s ((0:Nat):Int) false:=by show Y.heap[w.heap.size+1]?=_;rw[x,<- ab];exact heap_alloc_new _ _
 have n:Y.heap[w.heap.size]?=Zo (Zc #[Zi Zk 0,Zs Zn 0 0,Zs Zn 0 0] 31 (0,0)):=by rw[x,Zh _ _ _ om];exact l
 have HK:=a7 (AL 6 (Zl _) (m+1) (w.heap.size+1) s 0 false Y hm aa om (fun _=>Nat.zero_le _) om);clear aa l H;go_in;go_wp2_with fail;rw[<- A,<- x];clear A x;refine HK.out.mono ?_;rintro e w3 ⟨k,t,d0,d1,d2,i',z,rfl,ht,R,hG⟩;obtain⟨Z,ua,ul,uc,ya,yl,yc,rfl,rfl,rfl⟩:=ht.shape;have aj:=k.size;have Q:Bw w w3:=⟨k.os.trans B.os,k.tape.trans B.tape,k.output.trans B.output,om,fun b hb=>(k.block b om om).trans (B.block b hb)⟩;have p:w3.heap[w.heap.size]?=Zo (Zc #[Zi Zk 0,Zs Zn 0 0,Zs Zn 0 0] 31 (0,0)):=(k.block _ om om).trans n;obtain⟨u,j⟩:=ii (w3.alloc (Zc #[Zi Zk Z,Zs ua ul uc,Zs ya yl yc] 31));have ak:u.heap.size=w3.heap.size+1:=by rw[j];simp
 have f:Bw w3 u:=by rw[j];exact gx _ _
 have I:=b5 Q Q.size f;have q:=(f.block w.heap.size om).trans p;obtain⟨g,O⟩:=ht.step (fun b hb=>hb.2) f;have S:jm u (w.heap.size+1) s i' z:=(f.block _ R.lt).trans R;have i:j8 u w3.heap.size (Zi Zk Z) (Zs ua ul uc) (Zs ya yl yc):=by rw[j];exact j8.new _ _ _ _ _
 have c1:=S.cell1;have c2:=S.cell2;have F:Hid (pJ (m+1) 6 s 0 false t i' z):=hG;obtain⟨U,V,X⟩:=id i;have a:Hid (∀W:Zw,Bw u W->iZ (m+1) s=Zn->kH (m+1) (pQ m s) (Cb m s) w (Zr (Zu #[Za #[Zi Zk 0,Zs Zn 0 0,Zs Zn 0 0],Zb false])) (iD W w.heap.size 0 (Zi Zk 0) (Zs Zn 0 0) (Zs Zn 0 0))):=fun W hW h=>vP h (K.out W (b5 I I.size hW));have G:Hid (∀W:Zw,Bw u W->W.heap[w.heap.size]?=Zo (Zc #[Zi Zk 0,Zs Zn 0 0,Zs Zn 0 0] 31 (0,0))):=fun W hW=>(hW.block w.heap.size om).trans q;have HB:Hid (Bw w u):=I;clear HK hG ht R S k Q f I n p q B K;cases z with
 | true=>obtain⟨⟨C,D,E⟩,f0,f1,f2⟩:=iJ (G.out u (Below.refl _ _));have r:Hid _:=a.out u (Below.refl _ _) (pY F.out (.inl rfl));rw[j]at c1 c2 U V X C D E f0 f1 f2 r;clear i g a G F;go_wp2_with fail;refine bodyPost_ret (v:=Zu #[Za #[Zi Zk 0,Zs Zn 0 0,Zs Zn 0 0],Zb false]) (by simp[results,results103,go_sem,C,D,E]) rfl ?_;exact r.out
 | false=>
  by_cases P:i'=s.size;case neg=>have ad:((i':Int) != (s.size:Int))=true:=zE;obtain⟨⟨C,D,E⟩,f0,f1,f2⟩:=iJ (G.out u (Below.refl _ _));have r:Hid _:=a.out u (Below.refl _ _) (pY F.out (.inr (.inl P)));rw[j]at c1 c2 U V X C D E f0 f1 f2 r;clear i g a G F P;go_wp2_with fail;refine bodyPost_ret (v:=Zu #[Za #[Zi Zk 0,Zs Zn 0 0,Zs Zn 0 0],Zb false]) (by simp[results,results103,go_sem,C,D,E]) rfl ?_;exact r.out
  have ad:((i':Int) != (s.size:Int))=false:=zE;have M:Hid (Calls prog 31 #[Za #[Zi Zk Z,Zs ua ul uc,Zs ya yl yc]] u _):=ow (m+1) _ t _ _ _ u g O;rw[j]at c1 c2 U V X;clear P;go_wp2_with fail;rw[<- j];clear c1 c2 U V X;refine M.out.mono ?_;rintro e w5 ⟨rfl,d⟩;have af:=d.size;obtain⟨U,V,X⟩:=i.keep d;cases hok:gF (m+1) t with
  | false=>obtain⟨⟨C,D,E⟩,f0,f1,f2⟩:=iJ (G.out w5 d);have r:Hid _:=a.out w5 d (pY F.out (.inr (.inr (.inl hok))));clear i g a G F d M hok;go_wp2_with fail;refine bodyPost_ret (v:=Zu #[Za #[Zi Zk 0,Zs Zn 0 0,Zs Zn 0 0],Zb false]) (by simp[results,results103,go_sem,C,D,E]) rfl ?_;exact r.out
  | true=>
   have hp:=iw hok;obtain⟨T,ac⟩:=g.step O d;have N:Hid (Calls prog 139 _ w5 _):=pA (m+1) _ t _ _ _ 1 w5 T ac hp.1 hp.2;have L:Hid (gF (m+1) t=true):=hok;clear hok hp M;go_wp2_with fail;refine N.out.mono ?_;rintro e w6 ⟨rfl,J⟩;have al:=J.size;have c:=b5 d af J;clear U V X;obtain⟨U,V,X⟩:=i.keep c;obtain⟨⟨C,D,E⟩,f0,f1,f2⟩:=iJ (G.out w6 c);by_cases y:fI (m+1) t=s.data.toList
   ·have hq:((bs (fI (m+1) t)).toList==s.toList)=true:=by rw[y,rk];simp
    have r:Hid (kH (m+1) (pQ m s) (Cb m s) w (Zr (Zu #[Za #[Zi Zk Z,Zs ua ul uc,Zs ya yl yc],Zb true])) (iD w6 w.heap.size 0 (Zi Zk Z) (Zs ua ul uc) (Zs ya yl yc))):=by obtain⟨q1,q2⟩:=mL (Gz h8 L.out y);rw[q1,q2];have ae:=(g.step O c).1;refine⟨js (b5 HB.out HB.out.size c) (Zl _),_,_,_,rfl,ae.keep (fun b hb=>ia om) (fun b hb=>by rw[iU];omega)⟩
    clear i g T a G F d J c N y L;go_wp2_with fail;refine bodyPost_ret (v:=Zu #[Za #[Zi Zk Z,Zs ua ul uc,Zs ya yl yc],Zb true]) (by simp[results,results103,go_sem,C,D,E]) rfl ?_;exact r.out
   ·have hq:((bs (fI (m+1) t)).toList==s.toList)=false:=by rw[beq_eq_false_iff_ne];intro e;apply y;rw[ByteArray.toList_eq,ByteArray.toList_eq,jy]at e;exact e
    have r:Hid _:=a.out w6 c (pY F.out (.inr (.inr (.inr y))));clear i g T a G F d J c N y L;go_wp2_with fail;refine bodyPost_ret (v:=Zu #[Za #[Zi Zk 0,Zs Zn 0 0,Zs Zn 0 0],Zb false]) (by simp[results,results103,go_sem,C,D,E]) rfl ?_;exact r.out
theorem Fd{α:Type}(n:Nd α)(a:Bool)(h:¬((1<=n.sort/\n.sort<=43)/\a=decide (36<=n.sort))):iS n a=false:=by
 unfold iS;by_cases b:1<=n.sort/\n.sort<=43
 ·have c:(a==decide (36<=n.sort))=false:=by rw[Bool.eq_false_iff];intro e;exact h ⟨b,by simpa using e⟩
  rw[c];simp
 ·rw[decide_eq_false b];rfl
theorem yG (m:Nat) (n:Nd (T m)) (na ka:ZO) (j kc:Nat) (a:Bool) (w:Zw) (h:¬ ((1<=n.sort/\n.sort<=43)/\a=decide (36<=n.sort))) :
  Calls prog 95 #[Za #[Zi Zk n.sort,Zi Zk n.num,Zt n.text,Zs na n.names.length j,Zs ka n.kids.length kc],Zb a] w fun e l=>e=Zr (Zb (iS n a))/\Bw w l:=by
 have d:=(Below.refl w.heap.size w).alloc (Zl _) (Zc #[Zi Zk n.sort,Zi Zk n.num,Zt n.text,Zs na n.names.length j,Zs ka n.kids.length kc] 40);have g:=a7 (Fd n a h);have b:Hid (∀w,Calls prog 58 #[Zi Zk n.sort,Zi Zk 1,Zi Zk 43] w _):=fun w=>iO n.sort 1 43 w;by_cases f:1<=n.sort/\n.sort<=43
 ·have i:¬a=decide (36<=n.sort):=fun e=>h ⟨f,e⟩;rw[decide_eq_true f]at b;clear h f;generalize n.sort=s at *;by_cases c:36<=s
  ·rw[decide_eq_true c]at i;have k:decide (36<=s)=true:=decide_eq_true c;obtain rfl:a=false:=by cases a<;>simp_all
   go_in;go_wp2_with fail;refine (b.out _).mono ?_;rintro e w1 ⟨rfl,rfl⟩;go_wp2;go_ret;exact⟨b6 g.out.symm,d⟩
  ·rw[decide_eq_false c]at i;have k:decide (36<=s)=false:=decide_eq_false c;obtain rfl:a=true:=by cases a<;>simp_all
   go_in;go_wp2_with fail;refine (b.out _).mono ?_;rintro e w1 ⟨rfl,rfl⟩;go_wp2;go_ret;exact⟨b6 g.out.symm,d⟩
 ·rw[decide_eq_false f]at b;clear h f;go_in;go_wp2_with fail;refine (b.out _).mono ?_;rintro e w1 ⟨rfl,rfl⟩;go_wp2;go_ret;exact⟨b6 g.out.symm,d⟩
theorem uN (S:ZP) (m:Nat) (num:Int) (text:ZN) (names:List ZN) (kids:List (T m)) (na ka:ZO) (g kc:Nat) (w:Zw) (l:fL S w names (Zs na names.length g)) (n:Bd S w) :
  Calls prog 95 #[Za #[Zi Zk 24,Zi Zk num,Zt text,Zs na names.length g,Zs ka kids.length kc],Zb false] w fun e x=>e=Zr (Zb ((num==0) && text.toList.isEmpty && gX names && (names.length==kids.length) && !(names.any (fun y=>y==bs [101,110,100]))))/\Bw w x:=by
 have f:=(Below.refl w.heap.size w).alloc (Zl _) (Zc #[Zi Zk 24,Zi Zk num,Zt text,Zs na names.length g,Zs ka kids.length kc] 40);have i:=l.keep (a6 f n) (fun _ h=>h);have d:Hid (∀w,Calls prog 58 #[Zi Zk 24,Zi Zk 1,Zi Zk 43] w _):=fun w=>iO 24 1 43 w;have j:Hid (Calls prog 99 _ _ _):=pz S names _ _ i (fun b s=>Nat.lt_of_lt_of_le (n b s) f.size);have q:Hid (∀w1,Bw w w1->Calls prog 141 #[Zs na names.length g,Zt (bs [101,110,100])] w1 _):=fun w1 a=>DF S names _ (bs [101,110,100]) w1 (l.keep (a6 a n) (fun _ h=>h));have k:Hid (∀w1,Below (w.alloc (Zc #[Zi Zk 24,Zi Zk num,Zt text,Zs na names.length g,Zs ka kids.length kc] 40)).heap.size (w.alloc (Zc #[Zi Zk 24,Zi Zk num,Zt text,Zs na names.length g,Zs ka kids.length kc] 40)) w1->Bw w w1/\w1.cell? ⟨w.heap.size,3,Zn⟩=Zo (Zs na names.length g)/\w1.cell? ⟨w.heap.size,4,Zn⟩=Zo (Zs ka kids.length kc)):=by intro w1 a;have p:=fZ ((a.block w.heap.size zS).trans (heap_alloc_last w _));exact⟨b5 f zS a,p.2.2.2.1,p.2.2.2.2⟩
 have u:((names.length:Int)==(kids.length:Int))=(names.length==kids.length):=by
  by_cases h:names.length=kids.length;·rw[h];simp
  ·have r:¬(names.length:Int)=(kids.length:Int):=by omega
   rw[beq_eq_false_iff_ne.2 h,beq_eq_false_iff_ne.2 r]
 have t:(text.toList==[])=text.toList.isEmpty:=by cases text.toList<;>rfl
 clear l i;generalize gX names=ri at *;generalize (names.any (fun y=>y==bs [101,110,100]))=ha at *;generalize (names.length==kids.length)=le at *;generalize text.toList.isEmpty=em at *;generalize v:(num==0)=nz at *;by_cases o:nz=true
 ·subst o;cases em with
  | false=>go_in;go_wp2_with fail;refine (d.out _).mono ?_;rintro e w1 ⟨rfl,rfl⟩;go_wp2;go_ret;exact⟨b6 zS,f⟩
  | true=>
   cases ri with
   | false=>go_in;go_wp2_with fail;refine (d.out _).mono ?_;rintro e w1 ⟨rfl,rfl⟩;go_wp2_with fail;refine j.out.mono ?_;rintro e w1 ⟨rfl,a⟩;obtain⟨c,z3,z4⟩:=k.out w1 a;clear a;go_wp2;go_ret;exact⟨b6 zS,c⟩
   | true=>
    cases le with
    | false=>go_in;go_wp2_with fail;refine (d.out _).mono ?_;rintro e w1 ⟨rfl,rfl⟩;go_wp2_with fail;refine j.out.mono ?_;rintro e w1 ⟨rfl,a⟩;obtain⟨c,z3,z4⟩:=k.out w1 a;clear a;go_wp2;go_ret;exact⟨b6 zS,c⟩
    | true=>go_in;go_wp2_with fail;refine (d.out _).mono ?_;rintro e w1 ⟨rfl,rfl⟩;go_wp2_with fail;refine j.out.mono ?_;rintro e w1 ⟨rfl,a⟩;obtain⟨c,z3,z4⟩:=k.out w1 a;clear a;go_wp2_with fail;refine (q.out _ c).mono ?_;rintro e z ⟨rfl,rfl⟩;go_wp2;go_ret;exact⟨b6 zS,c⟩
 ·obtain rfl:nz=false:=by simpa using o
  go_in;go_wp2_with fail;refine (d.out _).mono ?_;rintro e w1 ⟨rfl,rfl⟩;go_wp2;go_ret;exact⟨b6 zS,f⟩
end Go.Proofs.YtcfojmaccikgeaaGreatDoor
