import Derived.Test.YtcfojmaccikgeaaGreatDoorB37
open Go.Value renaming slice→Zs,int→Zi,string→Zt,pointer→Zp,tuple→Zu
open Go.IntKind renaming i64→Zk
open Go.Ending renaming returned→Zr
open Go.Obj renaming cells→Zc
open Option renaming none→Zn,some→Zo
open Go renaming World→Zw,Value→Zv
namespace Go.Proofs.YtcfojmaccikgeaaGreatDoor
open Go.RowKit Go.Proofs.Tryz
set_option maxRecDepth 100000
set_option maxHeartbeats 16000000
variable {S S':ZP} {w V w':Zw} {n M b:Nat} {c f:Zv}
def gV(S:ZP)(M:Nat)(k:K (M+2))(c:Int)(w:Zw)(e:Ending)(w':Zw):Prop:=
 Bw w w' /\ ((c=0/\∃b,e=Zr (Zu #[Zp (Zo ⟨b,0,Zn⟩),Zi Zk 0])/\b9 (Ov S w.heap.size Zn w') w' (M+2) k (Zp (Zo ⟨b,0,Zn⟩)))∨(c≠0/\e=Zr (Zu #[Zp Zn,Zi Zk c])))
def kj(S:ZP)(n:Nat)(k:K n)(w:Zw)(e:Ending)(w':Zw):Prop:=
 Bw w w' /\ ∃b,e=Zr (Zp (Zo ⟨b,0,Zn⟩))/\b9 (Ov S w.heap.size Zn w') w' n k (Zp (Zo ⟨b,0,Zn⟩))
theorem tj(S:ZP)(w:Zw)(n:Nat)(s:Int)(a:s≠5):b9 (Ov S w.heap.size Zn (w.alloc (Zc #[Zi Zk s,Zs Zn 0 0,.map Zn,Zs Zn 0 0] 118))) (w.alloc (Zc #[Zi Zk s,Zs Zn 0 0,.map Zn,Zs Zn 0 0] 118)) (n+1) (iA s) (Zp (Zo ⟨w.heap.size,0,Zn⟩)):=
 ⟨w.heap.size,_,_,_,rfl,.inr ⟨Nat.le_refl _,zS,zS⟩,heap_alloc_new _ _,⟨Zn,0,rfl,by show (0:Nat)<=maxLen;unfold maxLen;omega,fun s h=>(by cases h),fun h=>absurd rfl h⟩,fun h=>absurd h a,⟨Zn,0,rfl,by show (0:Nat)<=maxLen;unfold maxLen;omega,fun h=>absurd rfl h⟩⟩
theorem DG(S:ZP)(M:Nat)(lo:ZO)(a:Nat)(s:Int)(w:Zw)(d:w.cell? ⟨a,0,Zn⟩=Zo (Zi Zk s))(c:s≠5):Calls prog 154 #[Zp lo,Zp (Zo ⟨a,0,Zn⟩)] w (gV S M (iA s) 0 w):=by have b:Hid (gV S M (iA s) 0 w (Zr (Zu #[Zp (Zo ⟨w.heap.size,0,Zn⟩),Zi Zk 0])) (w.alloc (Zc #[Zi Zk s,Zs Zn 0 0,.map Zn,Zs Zn 0 0] 118))):=⟨gx _ _,.inl ⟨rfl,_,rfl,tj S w (M+1) s c⟩⟩;go_in;go_wp2_with fail;refine bodyPost_ret (by simp[results,results154,go_sem];rfl) rfl ?_;exact b.out
theorem De {b:Nat} {k:K n} (s:Int) (e:s≠5) (j:b9 S w n k (Zp (Zo ⟨b,0,Zn⟩))) (f:Bd S w) (W:Zw) (a:W=(w.alloc (Zc #[Zp (Zo ⟨b,0,Zn⟩)] 82)).alloc (Zc #[Zi Zk s,Zs Zn 0 0,.map Zn,Zs (Zo ⟨w.heap.size,0,Zn⟩) 1 1] 118)) :
  b9 (Ov S w.heap.size Zn W) W (n+1) (⟨s,[],[k]⟩:Kd (K n)) (Zp (Zo ⟨w.heap.size+1,0,Zn⟩)):=by
 have g:Bw w W:=by rw[a];exact (gx _ _).alloc zS _
 have l:W.heap.size=w.heap.size+2:=by rw[a];simp
 have c:W.heap[w.heap.size]?=Zo (Zc #[Zp (Zo ⟨b,0,Zn⟩)] 82 (0,0)):=by rw[a,Below.heap_alloc _ _ _ zS];exact heap_alloc_new _ _
 have d:W.heap[w.heap.size+1]?=Zo (Zc #[Zi Zk s,Zs Zn 0 0,.map Zn,Zs (Zo ⟨w.heap.size,0,Zn⟩) 1 1] 118 (0,0)):=by have:=heap_alloc_new (w.alloc (Zc #[Zp (Zo ⟨b,0,Zn⟩)] 82)) (Zc #[Zi Zk s,Zs Zn 0 0,.map Zn,Zs (Zo ⟨w.heap.size,0,Zn⟩) 1 1] 118);rw[a];simpa using this
 refine⟨_,_,_,_,rfl,.inr ⟨om,om,zS⟩,d,⟨Zn,0,rfl,by show (0:Nat)<=maxLen;unfold maxLen;omega,fun s h=>(by cases h),fun h=>absurd rfl h⟩,fun h=>absurd h e,⟨Zo ⟨w.heap.size,0,Zn⟩,1,rfl,by show (1:Nat)<=maxLen;unfold maxLen;omega,fun _=>⟨w.heap.size,0,rfl,.inr ⟨Nat.le_refl _,om,zS⟩,fun i hi=>?_⟩⟩⟩;have:i=0:=by simpa using hi
 subst this;exact⟨_,by simp[World.cell?,c],j.keep (a6 g f) fun _ h=>.inl h⟩
theorem lE(S:ZP)(n a:Nat)(k:K n)(s:Int)(w:Zw)(e:s≠5)(c:b9 S w n k (Zp (Zo ⟨a,0,Zn⟩)))(b:Bd S w):Calls prog 158 #[Zi Zk s,Zp (Zo ⟨a,0,Zn⟩)] w (kj S (n+1) (⟨s,[],[k]⟩:Kd (K n)) w):=by
 have d:Hid (kj S (n+1) (⟨s,[],[k]⟩:Kd (K n)) w (Zr (Zp (Zo ⟨w.heap.size+1,0,Zn⟩))) ((w.alloc (Zc #[Zp (Zo ⟨a,0,Zn⟩)] 82)).alloc (Zc #[Zi Zk s,Zs Zn 0 0,.map Zn,Zs (Zo ⟨w.heap.size,0,Zn⟩) 1 1] 118))):=
  ⟨(gx _ _).alloc zS _,_,rfl,De s e c b _ rfl⟩
 clear c b;go_in;go_wp2;go_ret;exact d.out
theorem kj.make{k:K (M+2)}{w1:Zw}{e:Ending}(d:Bw w V)(h:kj (Ov S w.heap.size Zn V) (M+2) k V e w1)(a:e=Zr (Zp (Zo ⟨b,0,Zn⟩))):gV S M k 0 w (Zr (Zu #[Zp (Zo ⟨b,0,Zn⟩),Zi Zk 0])) w1:=by
 obtain⟨f,i,rfl,g⟩:=h;injection a with a;injection a with a;injection a with a;injection a with a;subst a;have:=d.size;exact⟨d.trans (f.mono d.size),.inl ⟨rfl,_,rfl,g.keep (fun _ _=>rfl) fun x c=>by
  rcases c with (c|c)|c
  ·exact .inl c
  ·exact .inr ⟨c.1,by have:=f.size;omega,zS⟩
  ·exact .inr ⟨om,c.2.1,zS⟩⟩⟩
theorem rE{k:K n}{v:Zv}(b:Bw w V)(a:Bd S w)(h:b9 S w n k v):b9 (Ov S w.heap.size Zn V) V n k v:=h.keep (a6 b a) fun _ h=>.inl h
theorem xK (S:ZP) (M:Nat) (k:K (M+1)) (s:Int) (h g o d cap i c l j:Nat) (w:Zw) (n:Bd S w) (E:s≠5) (y:w.cell? ⟨l,0,Zn⟩=Zo (Zi Zk s)) (z:w.cell? ⟨h,8,Zn⟩=Zo (Zs (Zo ⟨g,o,Zn⟩) d cap)) (A:w.cell? ⟨j,0,Zn⟩=Zo (Zi Zk (i:Int))) (B:w.cell? ⟨g,o+i,Zn⟩=Zo (Zp (Zo ⟨c,0,Zn⟩))) (hi:i<d) (_hln:d<=1000) (C:b9 S w (M+1) k (Zp (Zo ⟨c,0,Zn⟩))) :
  Calls prog 159 #[Zp (Zo ⟨h,0,Zn⟩),Zp (Zo ⟨l,0,Zn⟩),Zp (Zo ⟨j,0,Zn⟩)] w (gV S M (kE s k) 0 w):=by have f:Bw w w.drew:=(Below.refl _ _).drew;have r:Hid (Calls prog 158 #[Zi Zk s,Zp (Zo ⟨c,0,Zn⟩)] w.drew _):=lE (Ov S w.heap.size Zn w.drew) (M+1) c k s w.drew E (rE f n C) (Ov.lt n (Nat.le_refl _));have F:(i:Int)<(d:Int):=om;clear C n;go_in;have t:w.drew.cell? ⟨l,0,Zn⟩=Zo (Zi Zk s):=y;have u:w.drew.cell? ⟨h,8,Zn⟩=Zo (Zs (Zo ⟨g,o,Zn⟩) d cap):=z;have v:w.drew.cell? ⟨j,0,Zn⟩=Zo (Zi Zk (i:Int)):=A;have x:w.drew.cell? ⟨g,o+i,Zn⟩=Zo (Zp (Zo ⟨c,0,Zn⟩)):=B;have H:=d8 y;have I:=d8 z;have J:=d8 A;have L:=d8 B;go_upto_region 1 with fail;refine wp_region_held_drew (S:=fun m=>m.cell? ⟨l,0,Zn⟩=Zo (Zi Zk s)/\m.cell? ⟨h,8,Zn⟩=Zo (Zs (Zo ⟨g,o,Zn⟩) d cap)/\m.cell? ⟨j,0,Zn⟩=Zo (Zi Zk (i:Int))/\m.cell? ⟨g,o+i,Zn⟩=Zo (Zp (Zo ⟨c,0,Zn⟩))) zK ⟨t,u,v,x⟩ (fun hHeld=>?_);have G:w.drew.heap.size=w.heap.size:=rfl;generalize w.drew=V at *;refine tk 0 ?_;refine tk 1 ?_;refine tk 2 ?_;refine tk 3 ?_;refine tk 4 ?_;refine tk 5 ?_;refine tk 6 ?_;refine tk 7 ?_;refine i6 8 fun K hK=>?_;go_simp;go_at_call 158;refine r.out.mono ?_;intro e w1 p;obtain⟨a,b,rfl,q⟩:=id p;have D:=Lib.hid (kj.make (M:=M) (S:=S) (b:=b) f p rfl);clear p q;refine hK.out _ _ ⟨kC a t om,kC a u om,kC a v om,kC a x om⟩ (fun hHeld=>?_);clear hK K r;refine tk 9 ?_;refine tk 10 ?_;refine wpAnyH_done zK ?_ _;go_simp;go_wp2_with fail;refine bodyPost_ret (by simp[results,results159,go_sem];rfl) rfl ?_;exact D.out
theorem wK (S:ZP) (M:Nat) (k:K (M+1)) (d g o a cap i c e:Nat) (w:Zw) (m:Bd S w) (h:w.cell? ⟨d,8,Zn⟩=Zo (Zs (Zo ⟨g,o,Zn⟩) a cap)) (j:w.cell? ⟨e,0,Zn⟩=Zo (Zi Zk (i:Int))) (l:w.cell? ⟨g,o+i,Zn⟩=Zo (Zp (Zo ⟨c,0,Zn⟩))) (hi:i<a) (_hln:a<=1000) (n:b9 S w (M+1) k (Zp (Zo ⟨c,0,Zn⟩))) :
  Calls prog 162 #[Zp (Zo ⟨d,0,Zn⟩),Zp (Zo ⟨e,0,Zn⟩)] w (gV S M (pq k) 0 w):=by have b:Bw w w.drew:=(Below.refl _ _).drew;have p:Hid (gV S M (pq k) 0 w (Zr (Zu #[Zp (Zo ⟨c,0,Zn⟩),Zi Zk 0])) w.drew):=⟨b,.inl ⟨rfl,_,rfl,(rE b m n).up⟩⟩;have t:(i:Int)<(a:Int):=om;clear n m;go_in;have q:w.drew.cell? ⟨d,8,Zn⟩=Zo (Zs (Zo ⟨g,o,Zn⟩) a cap):=h;have r:w.drew.cell? ⟨e,0,Zn⟩=Zo (Zi Zk (i:Int)):=j;have s:w.drew.cell? ⟨g,o+i,Zn⟩=Zo (Zp (Zo ⟨c,0,Zn⟩)):=l;have v:=d8 h;have x:=d8 j;have y:=d8 l;go_upto_region 1 with fail;refine wp_region_held_drew (S:=fun f=>f.cell? ⟨d,8,Zn⟩=Zo (Zs (Zo ⟨g,o,Zn⟩) a cap)/\f.cell? ⟨e,0,Zn⟩=Zo (Zi Zk (i:Int))/\f.cell? ⟨g,o+i,Zn⟩=Zo (Zp (Zo ⟨c,0,Zn⟩))) zK ⟨q,r,s⟩ (fun hHeld=>?_);have u:w.drew.heap.size=w.heap.size:=rfl;generalize w.drew=V at *;refine tk 0 ?_;refine tk 1 ?_;refine tk 2 ?_;refine tk 3 ?_;refine tk 4 ?_;refine tk 5 ?_;refine tk 6 ?_;refine tk 7 ?_;refine tk 8 ?_;refine wpAnyH_done zK ?_ _;go_simp;go_wp2_with fail;refine bodyPost_ret (by simp[results,results162,go_sem];rfl) rfl ?_;exact p.out
theorem um (S:ZP) (M:Nat) (k:K (M+1)) (n g o p cap h:Nat) (w:Zw) (j:Bd S w) (v:w.cell? ⟨n,8,Zn⟩=Zo (Zs (Zo ⟨g,o,Zn⟩) (p+1) cap)) (x:w.cell? ⟨g,o,Zn⟩=Zo (Zp (Zo ⟨h,0,Zn⟩))) (_hln:p<=1000) (l:b9 S w (M+1) k (Zp (Zo ⟨h,0,Zn⟩))) (ok:gF (M+1) k=true) (t:Kd.sort k=4) :
  Calls prog 128 #[Zp (Zo ⟨n,0,Zn⟩)] w (gV S M (pq (mQ k)) 0 w):=by have b:Bw w w:=Below.refl _ _;obtain⟨m,s,u,a,q,f,d,c⟩:=l.within ok (.inl t);have i:Hid (Calls prog 167 _ w _):=k5 w h s u 0 a q f d om;have r:Hid (gV S M (pq (mQ k)) 0 w (Zr (Zu #[Zp (Zo ⟨q,0,Zn⟩),Zi Zk 0])) w):=⟨b,.inl ⟨rfl,_,rfl,(rE b j c).up⟩⟩;clear l j c;go_in;go_wp2_with fail;refine i.out.mono ?_;rintro e w1 ⟨rfl,rfl⟩;clear i;go_wp2_with fail;refine bodyPost_ret (by simp[results,results128,go_sem];rfl) rfl ?_;exact r.out
theorem xi (S:ZP) (M:Nat) (lo:ZO) (w:Zw) (f:Bd S w) :
  Calls prog 129 #[Zp lo] w (gV S M (kE 6 (iA 1)) 0 w):=by
 have a:Bw w (w.alloc (Zc #[Zi Zk 1,Zs Zn 0 0,.map Zn,Zs Zn 0 0] 118)):=gx _ _;have d:Hid (Calls prog 158 #[Zi Zk 6,Zp (Zo ⟨w.heap.size,0,Zn⟩)] (w.alloc (Zc #[Zi Zk 1,Zs Zn 0 0,.map Zn,Zs Zn 0 0] 118)) _):=
  lE (Ov S w.heap.size Zn (w.alloc (Zc #[Zi Zk 1,Zs Zn 0 0,.map Zn,Zs Zn 0 0] 118))) (M+1) w.heap.size (iA 1) 6 _ zC (tj S w M 1 zC) (Ov.lt f zS)
 clear f;go_in;go_wp2_with fail;refine d.out.mono ?_;intro e w1 c;obtain⟨-,b,rfl,-⟩:=id c;have g:=Lib.hid (kj.make (M:=M) (S:=S) (b:=b) a c rfl);clear c d a;go_wp2_with fail;refine bodyPost_ret (by simp[results,results129,go_sem];rfl) rfl ?_;exact g.out
theorem uC (S:ZP) (M n:Nat) (env:jE M) (g:Nat) (u:Zv) (nb no t q:Nat) (s:ZN) (w:Zw) (f:gG S w M n env u) (I:s.size<=maxLen) (C:w.cell? ⟨g,6,Zn⟩=Zo u) (D:w.cell? ⟨g,3,Zn⟩=Zo (Zs (Zo ⟨nb,no,Zn⟩) (t+1) q)) (E:w.cell? ⟨nb,no,Zn⟩=Zo (Zt s)) (r:K (M+2) × Int) (G:r=match iX env s with|Zo k=>(pq k,0)|Zn=>(zU,5)) :
  Calls prog 118 #[Zp (Zo ⟨g,0,Zn⟩)] w (gV S M r.1 r.2 w):=by
 have j:Bw w w.drew:=(Below.refl _ _).drew;obtain⟨i,rfl⟩:∃i,u=Zp i:=by rcases f.ptr with ⟨-,rfl⟩|⟨P,rfl,-⟩<;>exact⟨_,rfl⟩
 have x:Hid (Calls prog 155 #[Zp i,Zt s] w.drew _):=GB S M n env (Zp i) s w.drew f.drew I;have y:=a7 G;clear f G;go_in;have z:w.drew.cell? ⟨g,6,Zn⟩=Zo (Zp i):=C;have A:w.drew.cell? ⟨g,3,Zn⟩=Zo (Zs (Zo ⟨nb,no,Zn⟩) (t+1) q):=D;have B:w.drew.cell? ⟨nb,no,Zn⟩=Zo (Zt s):=E;have L:=d8 C;have N:=d8 D;have O:=d8 E;go_upto_region 1 with fail;refine wp_region_held_drew (S:=fun v=>v.cell? ⟨g,6,Zn⟩=Zo (Zp i)/\v.cell? ⟨g,3,Zn⟩=Zo (Zs (Zo ⟨nb,no,Zn⟩) (t+1) q)/\v.cell? ⟨nb,no,Zn⟩=Zo (Zt s)) zK ⟨z,A,B⟩ (fun hHeld=>?_);have J:w.drew.heap.size=w.heap.size:=rfl;generalize w.drew=V at *;refine tk 0 ?_;refine tk 1 ?_;refine tk 2 ?_;refine tk 3 ?_;refine tk 4 ?_;refine tk 5 ?_;refine tk 6 ?_;refine tk 7 ?_;refine tk 8 ?_;refine tk 9 ?_;refine tk 10 ?_;refine i6 11 fun K hK=>?_;go_simp;go_at_call 155;refine x.out.mono ?_;rintro e w1 ⟨rfl,F⟩;have d:=Below.refl w1.heap.size w1;have a:=a7 F;clear F;obtain⟨H,p⟩:∃H,e=Zr (Zp H):=by (rcases a.out with ⟨-,rfl⟩|⟨k,b,-,rfl,-⟩<;>exact⟨_,rfl⟩)
 subst p;refine hK.out _ _ ⟨kC d z om,kC d A om,kC d B om⟩ (fun hHeld=>?_);clear hK K x;refine tk 12 ?_;refine wpAnyH_done zK ?_ _;go_simp;rcases a.out with ⟨l,c⟩|⟨k,b,l,c,m⟩
 ·injection c with c;injection c with c;subst c;have o:Hid (gV S M r.1 r.2 w (Zr (Zu #[Zp Zn,Zi Zk 5])) w1):=by rw[y.out,l];exact⟨j,.inr ⟨by show (5:Int)≠0;decide,rfl⟩⟩
  clear l a;go_wp2_with fail;refine bodyPost_ret (by simp[results,results118,go_sem];rfl) rfl ?_;exact o.out
 ·injection c with c;injection c with c;subst c;have o:Hid (gV S M r.1 r.2 w (Zr (Zu #[Zp (Zo ⟨b,0,Zn⟩),Zi Zk 0])) w1):=by rw[y.out,l];exact⟨j,.inl ⟨rfl,_,rfl,(m.keep (fun _ _=>rfl) fun _ h=>.inl h).up⟩⟩
  clear l a m;go_wp2_with fail;refine bodyPost_ret (by simp[results,results118,go_sem];rfl) rfl ?_;exact o.out
theorem b9.fieldAt {k:K (M+1)} (h:b9 S w (M+1) k (Zp (Zo ⟨b,0,Zn⟩))) (ok:gF (M+1) k=true) (m:Kd.sort k=5) (s:ZN) (y:s.size<=maxLen) :
  Calls prog 163 #[Zp (Zo ⟨b,0,Zn⟩),Zt s] w fun e u=>u=w/\((mP k s=Zn/\e=Zr (Zp Zn))∨∃x l,mP k s=Zo x/\e=Zr (Zp (Zo ⟨l,0,Zn⟩))/\b9 S w (M+1) x (Zp (Zo ⟨l,0,Zn⟩))):=by
 obtain⟨E,L,z,J,f,F,d,I,v,D,cap,rfl,H,B⟩:=h;injection f with f;injection f with f;injection f with f;subst f;obtain⟨f1,f2,f3,f4,-⟩:=ms ok m;obtain⟨N,O,A,C⟩:=lY d;by_cases r:s∈Kd.names k
 ·obtain⟨i,hi,q⟩:=List.getElem_of_mem r;have a:i<(Kd.kids k).length:=om;obtain⟨g,o,rfl,G,p⟩:=B (fun h=>by rw[h]at a;simp at a);obtain⟨c,n,j⟩:=p i a;obtain⟨l,rfl,-⟩:=j.ptr;have t:(Kd.names k)[i].size<=maxLen:=by rw[q];exact y
  have:=C3 S w (Kd.names k) z b g o (Kd.kids k).length cap l i A (v m) f4 hi t C a n;rw[q]at this;refine this.mono ?_;rintro e u ⟨rfl,rfl⟩;refine⟨rfl,.inr ⟨_,l,?_,rfl,j.up⟩⟩;unfold mP;rw[<- q,mZ _ _ i hi a f4];rfl
 ·refine (FF S w (Kd.names k) z b s A (v m) r y).mono ?_;rintro e u ⟨rfl,rfl⟩;refine⟨rfl,.inl ⟨?_,rfl⟩⟩;unfold mP;rw[oJ _ _ _ r];rfl
theorem Jy:gF (M+1) (zU:K (M+1))=false:=by
 cases h:gF (M+1) (zU:K (M+1)) with
 | false=>rfl
 | true=>have a:fX 0 [] 0=true:=(ic (iw h).1).2.1;simp[fX]at a
theorem rd.ok{k:K (M+1)}(h:rd S w M k c)(ok:gF (M+1) k=true):b9 S w (M+1) k c:=by
 rcases h with h|h;·exact h.2
 ·rw[h.1,Jy]at ok;cases ok
theorem uJ (S:ZP) (M:Nat) (k:K (M+1)) (f g o t cap m:Nat) (nb no v u:Nat) (s:ZN) (w:Zw) (E:w.cell? ⟨f,8,Zn⟩=Zo (Zs (Zo ⟨g,o,Zn⟩) (t+1) cap)) (F:w.cell? ⟨g,o,Zn⟩=Zo (Zp (Zo ⟨m,0,Zn⟩))) (G:w.cell? ⟨f,3,Zn⟩=Zo (Zs (Zo ⟨nb,no,Zn⟩) (v+1) u)) (H:w.cell? ⟨nb,no,Zn⟩=Zo (Zt s)) (P:s.size<=maxLen) (J:b9 S w (M+1) k (Zp (Zo ⟨m,0,Zn⟩))) (ok:gF (M+1) k=true) (O:Kd.sort k=5) (r:K (M+2) × Int) (L:r=match mP k s with|Zo x=>(pq x,0)|Zn=>(zU,8)) :
  Calls prog 124 #[Zp (Zo ⟨f,0,Zn⟩)] w (gV S M r.1 r.2 w):=by
 have i:Bw w w.drew:=(Below.refl _ _).drew;have y:Hid (Calls prog 163 #[Zp (Zo ⟨m,0,Zn⟩),Zt s] w.drew _):=J.drew.fieldAt ok O s P;have z:=a7 L;clear J L ok;go_in;have A:w.drew.cell? ⟨f,8,Zn⟩=Zo (Zs (Zo ⟨g,o,Zn⟩) (t+1) cap):=E;have B:w.drew.cell? ⟨g,o,Zn⟩=Zo (Zp (Zo ⟨m,0,Zn⟩)):=F;have C:w.drew.cell? ⟨f,3,Zn⟩=Zo (Zs (Zo ⟨nb,no,Zn⟩) (v+1) u):=G;have D:w.drew.cell? ⟨nb,no,Zn⟩=Zo (Zt s):=H;have R:=d8 E;have T:=d8 F;have U:=d8 G;have W:=d8 H;go_upto_region 1 with fail;refine wp_region_held_drew (S:=fun n=>n.cell? ⟨f,8,Zn⟩=Zo (Zs (Zo ⟨g,o,Zn⟩) (t+1) cap)/\n.cell? ⟨g,o,Zn⟩=Zo (Zp (Zo ⟨m,0,Zn⟩))/\n.cell? ⟨f,3,Zn⟩=Zo (Zs (Zo ⟨nb,no,Zn⟩) (v+1) u)/\n.cell? ⟨nb,no,Zn⟩=Zo (Zt s)) zK ⟨A,B,C,D⟩ (fun hHeld=>?_);have Q:w.drew.heap.size=w.heap.size:=rfl;generalize w.drew=V at *;refine tk 0 ?_;refine tk 1 ?_;refine tk 2 ?_;refine tk 3 ?_;refine tk 4 ?_;refine tk 5 ?_;refine tk 6 ?_;refine tk 7 ?_;refine tk 8 ?_;refine tk 9 ?_;refine tk 10 ?_;refine tk 11 ?_;refine tk 12 ?_;refine i6 13 fun K hK=>?_;go_simp;go_at_call 163;refine y.out.mono ?_;rintro e w1 ⟨rfl,I⟩;have d:=Below.refl w1.heap.size w1;have a:=a7 I;clear I;obtain⟨N,q⟩:∃N,e=Zr (Zp N):=by (rcases a.out with ⟨-,rfl⟩|⟨k,b,-,rfl,-⟩<;>exact⟨_,rfl⟩)
 subst q;refine hK.out _ _ ⟨kC d A om,kC d B om,kC d C om,kC d D om⟩ (fun hHeld=>?_);clear hK K y;refine tk 14 ?_;refine wpAnyH_done zK ?_ _;go_simp;rcases a.out with ⟨j,c⟩|⟨x,b,j,c,l⟩
 ·injection c with c;injection c with c;subst c;have p:Hid (gV S M r.1 r.2 w (Zr (Zu #[Zp Zn,Zi Zk 8])) w1):=by rw[z.out,j];exact⟨i,.inr ⟨by show (8:Int)≠0;decide,rfl⟩⟩
  clear j a;go_wp2_with fail;refine bodyPost_ret (by simp[results,results124,go_sem];rfl) rfl ?_;exact p.out
 ·injection c with c;injection c with c;subst c;have p:Hid (gV S M r.1 r.2 w (Zr (Zu #[Zp (Zo ⟨b,0,Zn⟩),Zi Zk 0])) w1):=by rw[z.out,j];exact⟨i,.inl ⟨rfl,_,rfl,(l.keep (fun _ _=>rfl) fun _ h=>.inl h).up⟩⟩
  clear j a l;go_wp2_with fail;refine bodyPost_ret (by simp[results,results124,go_sem];rfl) rfl ?_;exact p.out
theorem s8 (S:ZP) (n:Nat) (names:List ZN) (f:List (K n)) (t q:Zv) (w:Zw) (g:Bd S w) (j:fL S w names t) (k:lx S w (b9 S w n) f q) :
  Calls prog 164 #[t,q] w (kj S (n+1) (⟨5,names,f⟩:Kd (K n)) w):=by
 obtain⟨na,s,rfl,-⟩:=id j;obtain⟨o,p,rfl,-⟩:=id k;have m:=a7 (p9 S names _ w j g);have x:=a7 j;have v:=a7 k;clear j k;go_in;go_wp2_with fail;refine m.out.mono ?_;rintro e w1 ⟨z,rfl,l,c⟩;have d:=c.size;obtain⟨r,rfl,-,-⟩:=id l;have a:Bw w (w1.alloc (Zc #[Zi Zk 5,Zs na names.length s,.map (Zo r),Zs o f.length p] 118)):=c.alloc d _;have u:Hid (kj S (n+1) (⟨5,names,f⟩:Kd (K n)) w (Zr (Zp (Zo ⟨w1.heap.size,0,Zn⟩))) (w1.alloc (Zc #[Zi Zk 5,Zs na names.length s,.map (Zo r),Zs o f.length p] 118))):=
  ⟨a,_,rfl,_,_,_,_,rfl,.inr ⟨d,zS,zS⟩,heap_alloc_new _ _,x.out.keep (a6 a g) fun _ h=>.inl h,fun _=>l.keep (fun b i=>Below.heap_alloc _ _ _ i.2) fun b i=>.inr ⟨i.1,by have:=i.2;simp;omega,zS⟩,v.out.keep (a6 a g) (fun _ h=>.inl h) fun _ _ _ y=>y.keep (a6 a g) fun _ h=>.inl h⟩
 clear m l c a;go_wp2;go_ret;exact u.out
theorem wE (S:ZP) (M:Nat) (names:List ZN) (c:List (K (M+1))) (d:Nat) (na ka:ZO) (i kc:Nat) (w:Zw) (f:Bd S w) (o:w.cell? ⟨d,3,Zn⟩=Zo (Zs na names.length i)) (p:w.cell? ⟨d,8,Zn⟩=Zo (Zs ka c.length kc)) (r:fL S w names (Zs na names.length i)) (q:lx S w (b9 S w (M+1)) c (Zs ka c.length kc)) :
  Calls prog 127 #[Zp (Zo ⟨d,0,Zn⟩)] w (gV S M (⟨5,names,c⟩:Kd (K (M+1))) 0 w):=by have a:Bw w w.drew:=(Below.refl _ _).drew;have l:Hid (Calls prog 164 #[Zs na names.length i,Zs ka c.length kc] w.drew _):=s8 (Ov S w.heap.size Zn w.drew) (M+1) names c _ _ w.drew (Ov.lt f (Nat.le_refl _)) (r.keep (a6 a f) fun _ h=>.inl h) (q.keep (a6 a f) (fun _ h=>.inl h) fun _ _ _ v=>v.keep (a6 a f) fun _ h=>.inl h);clear r q f;go_in;have m:w.drew.cell? ⟨d,3,Zn⟩=Zo (Zs na names.length i):=o;have n:w.drew.cell? ⟨d,8,Zn⟩=Zo (Zs ka c.length kc):=p;have x:=d8 o;have y:=d8 p;go_upto_region 1 with fail;refine wp_region_held_drew (S:=fun s=>s.cell? ⟨d,3,Zn⟩=Zo (Zs na names.length i)/\s.cell? ⟨d,8,Zn⟩=Zo (Zs ka c.length kc)) zK ⟨m,n⟩ (fun hHeld=>?_);have u:w.drew.heap.size=w.heap.size:=rfl;generalize w.drew=V at *;refine tk 0 ?_;refine tk 1 ?_;refine tk 2 ?_;refine tk 3 ?_;refine tk 4 ?_;refine tk 5 ?_;refine tk 6 ?_;refine tk 7 ?_;refine tk 8 ?_;refine i6 9 fun K hK=>?_;go_simp;go_at_call 164;refine l.out.mono ?_;intro e w1 j;obtain⟨g,b,rfl,k⟩:=id j;have t:=Lib.hid (kj.make (M:=M) (S:=S) (b:=b) a j rfl);clear j k;refine hK.out _ _ ⟨kC g m om,kC g n om⟩ (fun hHeld=>?_);clear hK K l;refine tk 10 ?_;refine tk 11 ?_;refine wpAnyH_done zK ?_ _;go_simp;go_wp2_with fail;refine bodyPost_ret (by simp[results,results127,go_sem];rfl) rfl ?_;exact t.out
theorem rJ {N:Nat} {a b:Zv} {t:TypeId} (h:w.heap[N]?=Zo (Zc #[a,b,c] t (0,0))) :
  w.cell? ⟨N,0,Zn⟩=Zo a/\w.cell? ⟨N,1,Zn⟩=Zo b/\w.cell? ⟨N,2,Zn⟩=Zo c:=by refine⟨?_,?_,?_⟩<;>simp[World.cell?,h]
theorem D2 (S:ZP) (M:Nat) (hM:5<=M) (x:ZN) (s:Int) (lb D:Nat) (w:Zw) (hB:Bd S w) (h5:s≠5) (e0:w.cell? ⟨lb,2,Zn⟩=Zo (Zt x)) (e1:w.cell? ⟨D,0,Zn⟩=Zo (Zi Zk s)) (N:jV x=true) :
  Calls prog 156 #[Zp (Zo ⟨lb,0,Zn⟩),Zp (Zo ⟨D,0,Zn⟩)] w (gV S M (kE s (qd M x)) 0 w):=by
 obtain⟨k,Q⟩:∃k,iZ (x.size+8) x=Zo k:=Option.isSome_iff_exists.1 N;obtain⟨ad,z,ac⟩:=kr Q;have A:qd M x=fO M (x.size+8) k:=by unfold qd;rw[Q]
 have c:=mL (m:=x.size+7) Q;have t:gF (M+1) (qd M x)=true:=by rw[A];exact (ni hM z).1
 have HC:Hid (Calls prog 157 #[Zt x] w fun e T=>Bw w T/\∃f g j i l q o,e=Zr (Zu #[.agg #[Zi Zk f,Zs g j i,Zs l q o],.bool true])/\a8 (fun b=>w.heap.size<=b/\b<T.heap.size) T (M+1) (qd M x) (Zi Zk f) (Zs g j i) (Zs l q o)):=by refine (pc x (x.size+7) om om w).mono ?_;rintro e T ⟨r,c0,c1,c2,L3,L4,rfl,y,-⟩;rw[c.1]at y;obtain⟨f,g,j,i,l,q,o,rfl,rfl,rfl⟩:=y.shape;refine⟨r,f,g,j,i,l,q,o,by rw[c.2],?_⟩;rw[A];exact a8.okd (n:=x.size+8) z hM y
 have l1:=d8 e1;obtain⟨I,J⟩:=iw t;have X:=a7 I;have U:=a7 J;clear Q ad z ac A c N t I J;go_in;go_wp2_with fail;refine HC.out.mono ?_;rintro e w1 ⟨F,f,g,j,i,l,q,o,rfl,O⟩;have ab:=F.size;obtain⟨W,C⟩:=ii (w1.alloc (Zc #[Zi Zk f,Zs g j i,Zs l q o] 31));have G:Bw w W:=by rw[C];exact F.alloc ab _
 have E:W.heap[w1.heap.size]?=Zo (Zc #[Zi Zk f,Zs g j i,Zs l q o] 31 (0,0)):=by rw[C];exact heap_alloc_new _ _
 have af:W.heap.size=w1.heap.size+1:=by rw[C];simp
 have L:a8 (Ov S w.heap.size Zn W) W.drew (M+1) (qd M x) (Zi Zk f) (Zs g j i) (Zs l q o):=O.keep (fun b a=>by show W.heap[b]?=_;rw[C];exact Below.heap_alloc _ _ _ a.2) fun b a=>.inr ⟨a.1,by have:=a.2;omega,zS⟩;have HM:Hid (Calls prog 114 #[.agg #[Zi Zk f,Zs g j i,Zs l q o]] W.drew _):=yX (M+1) _ (qd M x) _ _ _ 1 W.drew L (Ov.lt hB (by show _<=W.heap.size;omega)) X.out U.out;obtain⟨k0,k1,k2⟩:=rJ (w:=W.drew) E;have d1:W.drew.cell? ⟨D,0,Zn⟩=Zo (Zi Zk s):=(G.cell (p:=⟨D,0,Zn⟩) l1).trans e1;have H:Bw w W.drew:=G.drew;clear HC O L E;go_upto_region 2 with fail;rw[<- C];clear C;refine wp_region_held_drew (S:=fun R=>R.cell? ⟨D,0,Zn⟩=Zo (Zi Zk s)/\R.cell? ⟨w1.heap.size,0,Zn⟩=Zo (Zi Zk f)/\R.cell? ⟨w1.heap.size,1,Zn⟩=Zo (Zs g j i)/\R.cell? ⟨w1.heap.size,2,Zn⟩=Zo (Zs l q o)) zK ⟨d1,k0,k1,k2⟩ (fun hHeld=>?_);have ag:W.drew.heap.size=W.heap.size:=rfl;generalize W.drew=V at *;refine tk 0 ?_;refine tk 1 ?_;refine i6 2 fun K hK=>?_;go_simp;go_at_call 114;refine HM.out.mono ?_;rintro e P ⟨d,v2,rfl,v⟩;obtain⟨kb,rfl,-⟩:=id v.ptr;have ae:=d.size;have u:∀B,Bw V B->B.cell? ⟨D,0,Zn⟩=Zo (Zi Zk s)/\B.cell? ⟨w1.heap.size,0,Zn⟩=Zo (Zi Zk f)/\B.cell? ⟨w1.heap.size,1,Zn⟩=Zo (Zs g j i)/\B.cell? ⟨w1.heap.size,2,Zn⟩=Zo (Zs l q o):=fun B h=>⟨kC h d1 om,kC h k0 om,kC h k1 om,kC h k2 om⟩;have Y:=a7 u;refine hK.out _ _ (u P d) (fun hHeld=>?_);have r:Bw w P:=H.trans (d.mono H.size);have HD:Hid (Calls prog 158 #[Zi Zk s,Zp (Zo ⟨kb,0,Zn⟩)] P _):=lE (Ov S w.heap.size Zn P) (M+1) kb (qd M x) s P h5 (v.keep (fun _ _=>rfl) fun b a=>by
  rcases a with (a|a)|a
  ·exact .inl a
  ·exact .inr ⟨a.1,by have:=a.2.1;omega,zS⟩
  ·exact .inr ⟨om,a.2,zS⟩) (Ov.lt hB r.size)
 clear hK K HM v u;refine i6 3 fun K hK=>?_;go_simp;go_at_call 158;refine HD.out.mono ?_;intro e w4 Z;obtain⟨aa,b,rfl,-⟩:=id Z;refine hK.out _ _ (Y.out w4 (d.trans (aa.mono d.size))) (fun hHeld=>?_);have HF:=Lib.hid (kj.make (M:=M) (S:=S) (b:=b) r Z rfl);clear hK K HD Z;refine tk 4 ?_;refine tk 5 ?_;refine wpAnyH_done zK ?_ _;go_simp;go_wp2_with fail;refine bodyPost_ret (by simp[results,results156,go_sem];rfl) rfl ?_;exact HF.out
abbrev Wd:=List Int ⊕ Nat
abbrev Wd.sorts(l:List Int):Wd:=.inl l
abbrev Wd.any:Wd:=.inr 0
abbrev Wd.within:Wd:=.inr 1
abbrev Wd.sink:Wd:=.inr 2
abbrev Wd.like(p:Nat):Wd:=.inr (p+3)
theorem Wd.cs{P:Wd->Prop}(sorts:∀l,P (.sorts l))(any:P .any)(like:∀p,P (.like p))(within:P .within)(sink:P .sink):∀d,P d
 | .inl l=>sorts l
 | .inr 0=>any
 | .inr 1=>within
 | .inr 2=>sink
 | .inr (p+3)=>like p
abbrev Md:=(Int×Nat) ⊕ Nat
abbrev Md.leaf(s:Int):Md:=.inl (s,0)
abbrev Md.said(s:Int):Md:=.inl (s,1)
abbrev Md.wrap(s:Int)(p:Nat):Md:=.inl (s,p+2)
abbrev Md.bound:Md:=.inr 0
abbrev Md.field:Md:=.inr 1
abbrev Md.put:Md:=.inr 2
abbrev Md.cut:Md:=.inr 3
abbrev Md.form:Md:=.inr 4
abbrev Md.within:Md:=.inr 5
abbrev Md.num:Md:=.inr 6
abbrev Md.kid(p:Nat):Md:=.inr (p+7)
theorem Md.cs{P:Md->Prop}(leaf:∀s,P (.leaf s))(bound:P .bound)(said:∀s,P (.said s))(wrap:∀s p,P (.wrap s p))(kid:∀p,P (.kid p))(field:P .field)(put:P .put)(cut:P .cut)(form:P .form)(within:P .within)(num:P .num):∀d,P d
 | .inl (s,0)=>leaf s
 | .inl (s,1)=>said s
 | .inl (s,p+2)=>wrap s p
 | .inr 0=>bound
 | .inr 1=>field
 | .inr 2=>put
 | .inr 3=>cut
 | .inr 4=>form
 | .inr 5=>within
 | .inr 6=>num
 | .inr (p+7)=>kid p
def Jv:List (List Wd):=[[],[],[],[],[],[],[],[],[],[.sorts [1],.sorts [1]],[.sorts [1],.sorts [1]],[.sorts [1],.sorts [1]],[.sorts [1],.sorts [1]],[.sorts [1],.sorts [1]],[.sorts [1,2],.like 0],[.any,.like 0],[.sorts [3],.sorts [3]],[.sorts [3],.sorts [3]],[.sorts [3]],[.sorts [3],.any,.like 1],[],[.sorts [5]],[.sorts [5]],[.sorts [5]],[],[.sorts [4],.sorts [1]],[.sorts [4,2]],[.sorts [4,2],.like 0],[.sorts [4,2],.sorts [1],.sorts [1]],[.sorts [1]],[.sorts [2]],[.sorts [6],.within],[.sorts [6],.any,.like 1],[.sorts [4]],[.sorts [4],.sorts [3]],[.sorts [4],.any,.like 1],[],[],[.sink],[.sink],[],[.sorts [3]],[],[.sorts [4]]]
def Jl:List (Option Md):=[Zn,Zo (.leaf 1),Zo (.leaf 2),Zo (.leaf 3),Zo (.bound),Zo (.said 6),Zo (.said 4),Zo (.wrap 6 0),Zo (.wrap 4 0),Zo (.leaf 1),Zo (.leaf 1),Zo (.leaf 1),Zo (.leaf 1),Zo (.leaf 1),Zo (.leaf 3),Zo (.leaf 3),Zo (.leaf 3),Zo (.leaf 3),Zo (.leaf 3),Zo (.kid 1),Zo (.kid 1),Zo (.field),Zo (.put),Zo (.cut),Zo (.form),Zo (.within),Zo (.leaf 1),Zo (.kid 0),Zo (.kid 0),Zo (.leaf 2),Zo (.num),Zo (.kid 1),Zo (.kid 1),Zo (.wrap 4 1),Zo (.kid 0),Zo (.kid 1),Zn,Zn,Zn,Zn,Zn,Zn,Zn,Zn]
def gT(k:Nat):List Wd:=Jv.getD k []
def iT(k:Nat):Option Md:=Jl.getD k Zn
def o8{M:Nat}(d:Wd)(b k:K (M+1))(a:List (K (M+1))):Bool:=
 match d with
 | .inl l=>decide (Kd.sort k∈l)
 | .inr 0=>true
 | .inr (p+3)=>ji k (a.getD p zU)
 | .inr 1=>ji k (mQ (a.getD 0 zU))
 | .inr 2=>ji k b
def GP(op:Int)(i:Nat):Wd:=
 if (9<=op/\op<=13)∨op=29 then .sorts [1]
 else if op=30 then .sorts [2]
 else if 16<=op/\op<=18 then .sorts [3]
 else if op=14 then if i=0 then .sorts [1,2] else .like 0
 else if op=15 then if i=0 then .any else .like 0
 else if op=19∨op=41 then if i=0 then .sorts [3] else if op=19/\i=2 then .like 1 else .any
 else if 21<=op/\op<=23 then if i=1 then .any else .sorts [5]
 else if op=25 then if i=0 then .sorts [4] else .sorts [1]
 else if op=26 then .sorts [4,2]
 else if op=27 then if i=0 then .sorts [4,2] else .like 0
 else if op=28 then if i=0 then .sorts [4,2] else .sorts [1]
 else if op=31 then if i=0 then .sorts [6] else .within
 else if op=32 then if i=0 then .sorts [6] else if i=2 then .like 1 else .any
 else if op=33∨op=43 then if i=1 then .any else .sorts [4]
 else if op=34 then if i=0 then .sorts [4] else .sorts [3]
 else if op=35 then if i=0 then .sorts [4] else if i=2 then .like 1 else .any
 else if op=38∨op=39 then .sink
 else .any
theorem I4{e k:K (M+1)}{d:List (K (M+1))}{c:Prop} [Decidable c] {a b:Wd}:o8 (if c then a else b) e k d=if c then o8 a e k d else o8 b e k d:=by split<;>rfl
theorem EC(op:Int)(b:K (M+1))(i:Nat)(k:K (M+1))(a:List (K (M+1))):b7 op b i k a=o8 (GP op i) b k a:=by
 unfold b7 GP;simp only[I4];repeat' refine ite_congr rfl (fun _=>?_) (fun _=>?_)
 all_goals first|rfl|(rw[Bool.eq_iff_iff];simp[o8];done)|(split<;>simp_all [o8];done)
theorem GQ:∀k,k<44->k≠24->∀i,i<(jr k).length->(gT k).getD i .any=GP (k:Int) i:=by decide
theorem Iz(k i:Nat)(c:k<44)(hi:k≠24->i<(jr k).length)(b x:K (M+1))(a:List (K (M+1))):b7 (k:Int) b i x a=o8 ((gT k).getD i .any) b x a:=by
 rw[EC];by_cases h:k=24;·subst h;rfl
 ·rw[GQ k c h i (hi h)]
def lW{M:Nat}(d:Option Md)(names:List ZN)(text:ZN)(env:jE M)(a:List (K (M+1))):K (M+2)×Int:=
 match d with
 | none=>(zU,0)
 | some (.inl (s,0))=>(iA s,0)
 | some (.inr 0)=>match iX env (names.getD 0 ByteArray.empty) with|Zo k=>(pq k,0)|Zn=>(zU,5)
 | some (.inl (s,1))=>(kE s (qd M text),0)
 | some (.inl (s,p+2))=>(kE s (a.getD p zU),0)
 | some (.inr (p+7))=>(pq (a.getD p zU),0)
 | some (.inr 1)=>match mP (a.getD 0 zU) (names.getD 0 ByteArray.empty) with|Zo k=>(pq k,0)|Zn=>(zU,8)
 | some (.inr 2)=>(A6 (a.getD 0 zU) (names.getD 0 ByteArray.empty) (a.getD 1 zU),0)
 | some (.inr 3)=>match mP (a.getD 0 zU) (names.getD 0 ByteArray.empty) with|Zo _=>(yj (a.getD 0 zU) (names.getD 0 ByteArray.empty),0)|Zn=>(zU,8)
 | some (.inr 4)=>((⟨5,names,a⟩:Kd (K (M+1))),0)
 | some (.inr 5)=>(pq (mQ (a.getD 0 zU)),0)
 | some (.inr 6)=>(kE 6 (iA 1),0)
theorem Hc(k:Nat)(b:1<=k)(c:k<=35)(names:List ZN)(text:ZN)(env:jE M)(a:List (K (M+1))):fV (k:Int) names text env a=lW (iT k) names text env a:=by
 obtain h|h|h|h|h|h|h|h|h|h|h|h|h|h|h|h|h|h|h|h|h|h|h|h|h|h|h|h|h|h|h|h|h|h|h:k=1∨k=2∨k=3∨k=4∨k=5∨k=6∨k=7∨k=8∨k=9∨k=10∨k=11∨k=12∨k=13∨k=14∨k=15∨k=16∨k=17∨k=18∨k=19∨k=20∨k=21∨k=22∨k=23∨k=24∨k=25∨k=26∨k=27∨k=28∨k=29∨k=30∨k=31∨k=32∨k=33∨k=34∨k=35:=by omega
 all_goals (subst h;rfl)
def kI(S:ZP)(w:Zw)(d:Wd)(f:Zv):Prop:=
 match d with
 | .inl l=>∃c b off cap,f=.func (.func 152) #[] #[Zp (Zo ⟨c,0,Zn⟩)]/\S c/\S b/\w.cell? ⟨c,0,Zn⟩=Zo (Zs (Zo ⟨b,off,Zn⟩) l.length cap)/\(∀i (h:i<l.length),w.cell? ⟨b,off+i,Zn⟩=Zo (Zi Zk l[i]))/\l.length<=100
 | .inr 0=>f=.func (.func 122) #[] #[]
 | .inr (p+3)=>∃a,f=.func (.func 160) #[] #[Zp (Zo ⟨a,0,Zn⟩)]/\S a/\w.cell? ⟨a,0,Zn⟩=Zo (Zi Zk (p:Int))
 | .inr 1=>f=.func (.func 130) #[] #[]
 | .inr 2=>f=.func (.func 131) #[] #[]
theorem kI.keep{d:Wd}(h:kI S w d f)(g:jn S w w')(e:∀b,S b->S' b):kI S' w' d f:=by
 cases d using Wd.cs with
 | sorts l=>obtain⟨n,b,off,cap,j,a,k,c,o,q⟩:=h;exact⟨n,b,off,cap,j,e _ a,e _ k,(g.cell (p:=⟨n,0,Zn⟩) a).trans c,fun i h=>(g.cell (p:=⟨b,off+i,Zn⟩) k).trans (o i h),q⟩
 | any=>exact h
 | like p=>obtain⟨m,j,a,c⟩:=h;exact⟨m,j,e _ a,(g.cell (p:=⟨m,0,Zn⟩) a).trans c⟩
 | within=>exact h
 | sink=>exact h
def kG(S:ZP)(w:Zw)(d:Option Md)(f:Zv):Prop:=
 match d with
 | none=>f=.nilFunc
 | some (.inl (s,0))=>∃a,f=.func (.func 154) #[] #[Zp (Zo ⟨a,0,Zn⟩)]/\S a/\w.cell? ⟨a,0,Zn⟩=Zo (Zi Zk s)/\s≠5
 | some (.inr 0)=>f=.func (.func 118) #[] #[]
 | some (.inl (s,1))=>∃a,f=.func (.func 156) #[] #[Zp (Zo ⟨a,0,Zn⟩)]/\S a/\w.cell? ⟨a,0,Zn⟩=Zo (Zi Zk s)/\s≠5
 | some (.inl (s,p+2))=>∃a b,f=.func (.func 159) #[] #[Zp (Zo ⟨a,0,Zn⟩),Zp (Zo ⟨b,0,Zn⟩)]/\S a/\S b/\w.cell? ⟨a,0,Zn⟩=Zo (Zi Zk s)/\w.cell? ⟨b,0,Zn⟩=Zo (Zi Zk (p:Int))/\s≠5
 | some (.inr (p+7))=>∃b,f=.func (.func 162) #[] #[Zp (Zo ⟨b,0,Zn⟩)]/\S b/\w.cell? ⟨b,0,Zn⟩=Zo (Zi Zk (p:Int))
 | some (.inr 1)=>f=.func (.func 124) #[] #[]
 | some (.inr 2)=>f=.func (.func 125) #[] #[]
 | some (.inr 3)=>f=.func (.func 126) #[] #[]
 | some (.inr 4)=>f=.func (.func 127) #[] #[]
 | some (.inr 5)=>f=.func (.func 128) #[] #[]
 | some (.inr 6)=>f=.func (.func 129) #[] #[]
theorem kG.keep{d:Option Md}(h:kG S w d f)(o:jn S w w')(i:∀b,S b->S' b):kG S' w' d f:=by
 have j:∀ {p:Nat} {v:Zv},S p->w.cell? ⟨p,0,Zn⟩=Zo v->w'.cell? ⟨p,0,Zn⟩=Zo v:=fun {p} {v} a c=>(o.cell (p:=⟨p,0,Zn⟩) a).trans c;rcases d with - | d;·exact h
 cases d using Md.cs with
 | leaf s=>obtain⟨k,e,a,c,g⟩:=h;exact⟨k,e,i _ a,j a c,g⟩
 | said s=>obtain⟨k,e,a,c,g⟩:=h;exact⟨k,e,i _ a,j a c,g⟩
 | wrap s p=>obtain⟨k,l,e,a,c,g,m,n⟩:=h;exact⟨k,l,e,i _ a,i _ c,j a g,j c m,n⟩
 | kid p=>obtain⟨l,e,a,c⟩:=h;exact⟨l,e,i _ a,j a c⟩
 | _=>exact h
def kQ(S:ZP)(w:Zw)(k:Nat)(a mv:Zv):Prop:=lx S w (kI S w) (gT k) a/\kG S w (iT k) mv
theorem kQ.keep{k:Nat}{d mv:Zv}(h:kQ S w k d mv)(c:jn S w w')(a:∀b,S b->S' b):kQ S' w' k d mv:=
 ⟨h.1.keep c a fun _ _ _ e=>e.keep c a,h.2.keep c a⟩
def BJ(S:ZP)(w:Zw)(b pl:Nat):Prop:=
 ∃cs:Array Zv,w.heap[b]?=Zo (Zc cs 141 (0,0))/\cs.size=90/\cs[89]?=Zo (Zi Zk (pl:Int))/\∀k,1<=k->k<44->∃a mv,cs[1+k*2]?=Zo a/\cs[1+k*2+1]?=Zo mv/\kQ S w k a mv
def EL(f:Zv)(first:Array Zv)(w:Zw)(Q:Ending->Zw->Prop):Prop:=
 ∃n cap,f=.func (.func n) #[] cap/\(∀(args:Array Zv)(W:Zw),(callFunc n args).run prog W=.ok (.enter n args) W)/\∀args:Array Zv,args=first++cap->Calls prog n args w Q
theorem EB {m z:Nat} {t:T (m+1)} {D:Nat} {env:jE M} {C:K (M+1)} {h:List (K (M+1))} (I:my S w M m z t D env C h) (G:Bd S w) (H:h.length<=1000) {d:Wd} (v:kI S w d f) {x:K (M+1)} {s:Nat} (B:b9 S w (M+1) x (Zp (Zo ⟨s,0,Zn⟩))) (r:gF (M+1) x=true)
  (k:∀p,d=.like p->p<h.length/\gF (M+1) (h.getD p zU)=true) (J:d=.within->0<h.length/\gF (M+1) (h.getD 0 zU)=true/\Kd.sort (h.getD 0 zU)=6) (q:d=.sink->gF (M+1) C=true) :
  EL f #[Zp (Zo ⟨z,0,Zn⟩),Zp (Zo ⟨s,0,Zn⟩)] w fun e Y=>e=Zr (.bool (o8 d C x h))/\Bw w Y:=by
 cases d using Wd.cs with
 | sorts l=>obtain⟨W,b,off,cap,rfl,O,L,P,Q,R⟩:=v;exact⟨_,_,rfl,Tryz.call152,fun args i=>by subst i;exact zb l _ _ s W b off cap w P Q R (tm B)⟩
 | any=>
  cases v
  exact⟨_,_,rfl,Tryz.call122,fun args i=>by subst i;exact wi _ _ w⟩
 | like p=>obtain⟨V,rfl,O,L⟩:=v;obtain⟨j,a⟩:=k p rfl;obtain⟨g,o,cap,c,E,F,u⟩:=I.kid p j;rw[gm j]at a;obtain⟨A,rfl,-⟩:=id (u.ok a).ptr;refine⟨_,_,rfl,Tryz.call160,fun args i=>?_⟩;subst i;have:=DH (M+1) S h[p] x z g o h.length cap p A s V w G E j H L F (u.ok a) B a r;simp only[o8];rw[gm j];exact this
 | within=>
  cases v
  obtain⟨j,a,N⟩:=J rfl;obtain⟨g,o,cap,c,E,F,u⟩:=I.kid 0 j;rw[gm j]at a N;obtain⟨A,rfl,-⟩:=id (u.ok a).ptr;refine⟨_,_,rfl,Tryz.call130,fun args i=>?_⟩;subst i;have:=tz M S h[0] x z g o (h.length-1) cap A s w G (by rw[Nat.sub_add_cancel j];exact E) om (by simpa using F) (u.ok a) B a r N;simp only[o8];rw[gm j];exact this
 | sink=>
  cases v
  obtain⟨n,c0,c1,c2,c3,c4,sv,X,Z,U,-,-,y,-⟩:=I.box;obtain⟨A,rfl,-⟩:=id (y.ok (q rfl)).ptr;refine⟨_,_,rfl,Tryz.call131,fun args i=>?_⟩;subst i;exact xe M S C x z A s w G (h9 U).2.2.2.2.2.2.2.1 (y.ok (q rfl)) B (q rfl) r
end Go.Proofs.YtcfojmaccikgeaaGreatDoor
