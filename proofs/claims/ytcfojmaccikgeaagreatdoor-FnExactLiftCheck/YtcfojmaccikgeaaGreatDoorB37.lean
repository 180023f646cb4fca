import Derived.Test.YtcfojmaccikgeaaGreatDoorB36
open Go.Value renaming slice→Zs,int→Zi,pointer→Zp,bool→Zb
open Go.Ending renaming returned→Zr
open Go.Obj renaming cells→Zc
open Option renaming none→Zn,some→Zo
open Go renaming World→Zw
namespace Go.Proofs.YtcfojmaccikgeaaGreatDoor
open Go.RowKit Go.Proofs.Tryz
set_option maxRecDepth 100000
set_option maxHeartbeats 16000000
variable {p n M:Nat} {w:Zw} {S:ZP} {v c:Value}
theorem Tryz.info_akS:(prog.info? 118).map (fun i=>i.size)=Zo 4:=by kernel_rfl
theorem GZ(p:Nat)(w:Zw):(binOp .eql 82 (Zp (Zo ⟨p,0,Zn⟩)) (Zp (Zo ⟨p,0,Zn⟩))).run prog w=.ok (Zb true) w:=by obtain⟨j,a,-⟩:=Option.map_eq_some_iff.1 Tryz.info_akS;exact run_eql_ptr_same w _ underlying82 a
theorem Fb {q:Nat} {b c:Array Value} (a:p≠q) (f:w.heap[p]?=Zo (Zc b 118 (0,0))) (g:w.heap[q]?=Zo (Zc c 118 (0,0))) :
  (binOp .eql 82 (Zp (Zo ⟨p,0,Zn⟩)) (Zp (Zo ⟨q,0,Zn⟩))).run prog w=.ok (Zb false) w:=by obtain⟨j,h,d⟩:=Option.map_eq_some_iff.1 Tryz.info_akS;exact run_eql_ptr_other w underlying82 h (by rw[d];decide) (fun e=>a (by injection e)) f g
theorem rr{a:K n}(h:b9 S w n a (Zp (Zo ⟨p,0,Zn⟩))):∃d,w.heap[p]?=Zo (Zc d 118 (0,0)):=by
 cases n with
 | zero=>exact h.elim
 | succ n=>obtain⟨e,i,j,g,c,f,b,-⟩:=h;injection c with c;injection c with c;injection c with c;subst c;exact⟨_,b⟩
theorem qJ(p:Nat)(w:Zw):Calls prog 161 #[Zp (Zo ⟨p,0,Zn⟩),Zp (Zo ⟨p,0,Zn⟩)] w fun e c=>e=Zr (Zb true)/\Bw w c:=by have a:Bw w w.drew:=(Below.refl _ _).drew;have b:=GZ p;go_in;go_upto_region 1 with fail;refine wp_region_held_drew (S:=fun _=>True) zK trivial (fun hHeld=>?_);generalize w.drew=V at *;refine tk 0 ?_;refine tk 1 ?_;refine tk 2 ?_;refine tk 3 ?_;refine ts 4 ?_;refine ts 5 ?_;refine ts 6 ?_;refine ts 7 ?_;refine ts 8 ?_;refine ts 9 ?_;refine ts 10 ?_;refine tk 11 ?_;refine tk 12 ?_;refine wpAnyH_done zK ?_ _;go_simp;go_wp2;go_ret;exact⟨rfl,a⟩
theorem pU (n:Nat) (S:ZP) (a b:K n) (q r:Nat) (w:Zw) (R:b9 S w n a (Zp (Zo ⟨q,0,Zn⟩))) (T:b9 S w n b (Zp (Zo ⟨r,0,Zn⟩))) (F:Bd S w) (J:gF n a=true) (L:gF n b=true) (Z:q≠r) :
  Calls prog 161 #[Zp (Zo ⟨q,0,Zn⟩),Zp (Zo ⟨r,0,Zn⟩)] w fun e l=>e=Zr (Zb (fI n a==fI n b))/\Bw w l:=by
 have o:Bw w w.drew:=(Below.refl _ _).drew;obtain⟨M,g2⟩:=iw J;obtain⟨N,g4⟩:=iw L;have X:=oA n a 1 M;have Y:=oA n b 1 N;have Q:Hid (∀V,Bw w V->Calls prog 197 #[Zs Zn 0 0,Zp (Zo ⟨q,0,Zn⟩)] V fun e l=>∃s,e=Zr s/\iV V.heap.size V l s (fI n a)/\Bw V l):=fun V t=>by refine (nP n V.heap.size V V (Zs Zn 0 0) [] a _ 1 (iV.nil (Nat.le_refl _)) (R.keep (a6 t F) fun x hx=>Nat.lt_of_lt_of_le (F x hx) t.size) M g2 zE).mono ?_;rintro e l ⟨s,rfl,h⟩;rw[List.nil_append]at h;exact⟨s,rfl,h,h.below⟩
 have G:Hid (∀V,Bw w V->Calls prog 197 #[Zs Zn 0 0,Zp (Zo ⟨r,0,Zn⟩)] V fun e l=>∃s,e=Zr s/\iV V.heap.size V l s (fI n b)/\Bw V l):=fun V t=>by refine (nP n V.heap.size V V (Zs Zn 0 0) [] b _ 1 (iV.nil (Nat.le_refl _)) (T.keep (a6 t F) fun x hx=>Nat.lt_of_lt_of_le (F x hx) t.size) N g4 zE).mono ?_;rintro e l ⟨s,rfl,h⟩;rw[List.nil_append]at h;exact⟨s,rfl,h,h.below⟩
 have D:Hid (fI n a≠[]):=Cu n a 1 M;have E:Hid (fI n b≠[]):=Cu n b 1 N;obtain⟨O,B⟩:=rr R;obtain⟨P,C⟩:=rr T;have aa:∀W:Zw,W.heap[q]?=Zo (Zc O 118 (0,0))/\W.heap[r]?=Zo (Zc P 118 (0,0))->(binOp .eql 82 (Zp (Zo ⟨q,0,Zn⟩)) (Zp (Zo ⟨r,0,Zn⟩))).run prog W=.ok (Zb false) W:=fun W h=>Fb Z h.1 h.2;have H:=(Array.getElem?_eq_some_iff.1 B).1;have I:=(Array.getElem?_eq_some_iff.1 C).1;have f:Hid (∀V,Bw w V->V.heap[q]?=Zo (Zc O 118 (0,0))/\V.heap[r]?=Zo (Zc P 118 (0,0))):=fun V t=>⟨(t.block q H).trans B,(t.block r I).trans C⟩;have A:∀x:List UInt8,(bs x).toList=x:=fun x=>by rw[ByteArray.toList_eq];rfl
 have m:Hid (((bs (fI n a)).toList==(bs (fI n b)).toList)=(fI n a==fI n b)):=by show _=_;rw[A,A]
 clear A;clear R T F J L M g2 N g4 X Y B C;go_in;go_upto_region 1 with fail;refine wp_region_held_drew (S:=fun l=>l.heap[q]?=Zo (Zc O 118 (0,0))/\l.heap[r]?=Zo (Zc P 118 (0,0))) zK (f.out _ o) (fun hHeld=>?_);generalize w.drew=V at *;refine tk 0 ?_;refine tk 1 ?_;refine tk 2 (v:=Zb false) (hy:=fun wq hq=>by have:=aa wq hq;go_simp) ?_;refine tk 3 ?_;refine tk 4 ?_;refine tk 7 ?_;refine i6 5 fun K hK=>?_;go_simp;go_at_call 197;refine (Q.out V o).mono ?_;rintro e w1 ⟨v1,rfl,c,U⟩;have j:=o.trans (U.mono o.size);obtain⟨va,vn,vc,rfl⟩:=c.shape;refine hK.out _ _ (f.out _ j) (fun hHeld=>?_);clear hK K;have k:=a7 c;have p:=kU _ _ _ _ _ c D.out;clear c;refine wpAnyH_ready (rs:=[6,8]) zK zS ?_;refine AllReadyH.cons rfl (fun K hK=>?_) (AllReadyH.cons rfl (fun K hK=>?_) AllReadyH.nil);·go_simp;refine hK.out _ _ (f.out _ j) (fun hHeld=>?_);clear hK K p;refine i6 8 fun K hK=>?_;go_simp;go_at_call 197;refine (G.out w1 j).mono ?_;rintro e w2 ⟨v2,rfl,c,i⟩;have d:=j.trans (i.mono j.size);obtain⟨ua,un,uc,rfl⟩:=c.shape;refine hK.out _ _ (f.out _ d) (fun hHeld=>?_);clear hK K;have p:=kU _ _ _ _ _ c E.out;refine i6 9 fun K hK=>?_;go_simp;refine hK.out _ _ (f.out _ d) (fun hHeld=>?_);clear hK K p c;refine tk 10 ?_;refine tk 11 ?_;refine tk 12 ?_;refine wpAnyH_done zK ?_ _;go_simp;go_wp2;go_ret;exact⟨b6 m.out,d⟩
 ·clear p;go_simp;go_at_call 197;refine (G.out w1 j).mono ?_;rintro e w2 ⟨v2,rfl,c,i⟩;have d:=j.trans (i.mono j.size);have u:iV V.heap.size V w2 (Zs va vn vc) (fI n a):=⟨gh k.out.own fun g hg=>i.block g (fU k.out.own g hg).2,k.out.below.trans (i.mono k.out.le),Nat.le_trans k.out.le i.size,k.out.kept.trans c.kept⟩;obtain⟨ua,un,uc,rfl⟩:=c.shape;refine hK.out _ _ (f.out _ d) (fun hHeld=>?_);clear hK K;have y:=kU _ _ _ _ _ u D.out;have z:=kU _ _ _ _ _ c E.out;clear u c;refine wpAnyH_ready (rs:=[6,9]) zK zS ?_;refine AllReadyH.cons rfl (fun K hK=>?_) (AllReadyH.cons rfl (fun K hK=>?_) AllReadyH.nil);·go_simp;refine hK.out _ _ (f.out _ d) (fun hHeld=>?_);clear hK K y;refine i6 9 fun K hK=>?_;go_simp;refine hK.out _ _ (f.out _ d) (fun hHeld=>?_);clear hK K z;refine tk 10 ?_;refine tk 11 ?_;refine tk 12 ?_;refine wpAnyH_done zK ?_ _;go_simp;go_wp2;go_ret;exact⟨b6 m.out,d⟩
  ·go_simp;refine hK.out _ _ (f.out _ d) (fun hHeld=>?_);clear hK K z;refine i6 6 fun K hK=>?_;go_simp;refine hK.out _ _ (f.out _ d) (fun hHeld=>?_);clear hK K y;refine tk 10 ?_;refine tk 11 ?_;refine tk 12 ?_;refine wpAnyH_done zK ?_ _;go_simp;go_wp2;go_ret;exact⟨b6 m.out,d⟩
theorem lD {a b:K n} {c d:Nat} (j:b9 S w n a (Zp (Zo ⟨c,0,Zn⟩))) (k:b9 S w n b (Zp (Zo ⟨d,0,Zn⟩))) (l:Bd S w) (f:gF n a=true) (g:gF n b=true) :
  Calls prog 161 #[Zp (Zo ⟨c,0,Zn⟩),Zp (Zo ⟨d,0,Zn⟩)] w fun e i=>e=Zr (Zb (fI n b==fI n a))/\Bw w i:=by
 by_cases h:c=d;·subst h;have e:=j.one k;subst e;refine (qJ c w).mono ?_;rintro e i ⟨rfl,h⟩;exact⟨b6 zS,h⟩
 ·refine (pU n S a b c d w j k l f g h).mono ?_;rintro e i ⟨rfl,h⟩;exact⟨b6 (by rw[Bool.eq_iff_iff];simp only[beq_iff_eq];exact⟨Eq.symm,Eq.symm⟩),h⟩
theorem b9.drew{t:K n}(h:b9 S w n t v):b9 S w.drew n t v:=b9.keep (w:=w) (w':=w.drew) (fun _ _=>rfl) (fun _ h=>h) h
theorem gG.drew{env:jE M}(h:gG S w M n env v):gG S w.drew M n env v:=gG.keep (w:=w) (w':=w.drew) (fun _ _=>rfl) (fun _ h=>h) h
theorem Az (l:List Int) (x:Int) (b off cap:Nat) (w:Zw) (f:∀ i (h:i<l.length),w.cell? ⟨b,off+i,Zn⟩=Zo (Zi .i64 l[i])) (t:l.length<=100) :
  Calls prog 193 #[Zs (Zo ⟨b,off,Zn⟩) l.length cap,Zi .i64 x] w fun e q=>q=w/\((x∈l/\∃i:Nat,i<l.length/\e=Zr (Zi .i64 i))∨(x ∉ l/\e=Zr (Zi .i64 (-1)))):=by
 go_in;go_wp2;go_loopw [8] (fun i wr=>wr=w/\∃k:Nat,k<=l.length/\i=Zi .i64 k/\∀j (h:j<l.length),j<k->l[j]≠x) (fun i _=>l.length-(intOf i).toNat);case atStart=>exact⟨rfl,0,Nat.zero_le _,rfl,fun j _ h=>absurd h (Nat.not_lt_zero _)⟩
 case round=>
  obtain⟨rfl,k,s,rfl,a⟩:=hrel;by_cases d:k<l.length
  ·have c:=f k d;by_cases m:x=l[k]
   ·have g:Hid (x∈l):=by show _∈_;rw[m];exact List.getElem_mem d
    clear f a;rw[<- m]at c;go_wp2;go_ret;exact⟨rfl,.inl ⟨g.out,k,d,rfl⟩⟩
   ·have o:Hid (∀ j (h:j<l.length),j<k+1->l[j]≠x):=fun j h n=>by
     by_cases e:j=k;·subst e;exact fun e=>m e.symm
     ·exact a j h om
    have r:=a7 f;generalize l[k]=y at *;clear f a;go_wp2;go_roundw;case rel=>exact⟨trivial,k+1,om,by go_num,o.out⟩
    case measure=>simp[intOf];omega
  ·have g:Hid (x ∉ l):=fun p=>by obtain⟨j,n,e⟩:=List.getElem_of_mem p;exact a j n om e
   clear f a;go_wp2;go_ret;exact⟨rfl,.inr ⟨g.out,rfl⟩⟩
theorem uF (l:List Int) (x:Int) (b off cap:Nat) (w:Zw) (d:∀ i (h:i<l.length),w.cell? ⟨b,off+i,Zn⟩=Zo (Zi .i64 l[i])) (f:l.length<=100) :
  Calls prog 153 #[Zs (Zo ⟨b,off,Zn⟩) l.length cap,Zi .i64 x] w fun e g=>g=w/\e=Zr (Zb (decide (x∈l))):=by
 have c:=a7 (Az l x b off cap w d f);clear d;go_in;go_wp2_with fail;refine c.out.mono ?_;rintro e w1 ⟨rfl,⟨a,i,hi,rfl⟩|⟨a,rfl⟩⟩;·clear c;go_wp2;go_ret;exact⟨rfl,b6 (by simp[a])⟩
 ·clear c;go_wp2;go_ret;exact⟨rfl,b6 (by simp[a])⟩
def rd(S:ZP)(w:Zw)(M:Nat)(k:K (M+1))(c:Value):Prop:=(gF (M+1) k=true/\b9 S w (M+1) k c)∨(k=zU/\c=Zp Zn)
theorem rd.keep{S':ZP}{w':Zw}{k:K (M+1)}(h:rd S w M k c)(d:jn S w w')(a:∀b,S b->S' b):rd S' w' M k c:=by
 rcases h with h|h;·exact .inl ⟨h.1,h.2.keep d a⟩
 ·exact .inr h
theorem rd.ptr{k:K (M+1)}(h:rd S w M k c):∃a,c=Zp a:=by
 rcases h with h|h;·obtain⟨b,e,-⟩:=h.2.ptr;exact⟨_,e⟩
 ·exact⟨_,h.2⟩
structure my(S:ZP)(w:Zw)(M m lb:Nat)(t:T (m+1))(at':Nat)(env:jE M)(sk:K (M+1))(ks:List (K (M+1))):Prop where
 box:∃n c0 c1 c2 c3 c4 sv skv kv,w.heap[lb]?=Zo (Zc #[c0,c1,c2,c3,c4,Zi .i64 (at':Int),sv,skv,kv] 144 (0,0))/\fT S w (m+1) t c0 c1 c2 c3 c4/\gG S w M n env sv/\rd S w M sk skv/\lx S w (rd S w M) ks kv
theorem h9 {N:Nat} {a b d e f g h i:Value} {t:TypeId} (j:w.heap[N]?=Zo (Zc #[a,b,c,d,e,f,g,h,i] t (0,0))) :
  w.cell? ⟨N,0,Zn⟩=Zo a/\w.cell? ⟨N,1,Zn⟩=Zo b/\w.cell? ⟨N,2,Zn⟩=Zo c/\w.cell? ⟨N,3,Zn⟩=Zo d/\w.cell? ⟨N,4,Zn⟩=Zo e/\w.cell? ⟨N,5,Zn⟩=Zo f/\w.cell? ⟨N,6,Zn⟩=Zo g/\w.cell? ⟨N,7,Zn⟩=Zo h/\w.cell? ⟨N,8,Zn⟩=Zo i:=by refine⟨?_,?_,?_,?_,?_,?_,?_,?_,?_⟩<;>simp[World.cell?,j]
theorem my.kid {m e:Nat} {t:T (m+1)} {b:Nat} {env:jE M} {q:K (M+1)} {a:List (K (M+1))} (h:my S w M m e t b env q a) (i:Nat) (hi:i<a.length) :
  ∃g o cap c,w.cell? ⟨e,8,Zn⟩=Zo (Zs (Zo ⟨g,o,Zn⟩) a.length cap)/\w.cell? ⟨g,o+i,Zn⟩=Zo c/\rd S w M a[i] c:=by obtain⟨n,c0,c1,c2,c3,c4,x,r,v,l,-,-,-,s,cap,rfl,u,p⟩:=h.box;obtain⟨g,o,rfl,-,d⟩:=p (fun f=>by rw[f]at hi;simp at hi);obtain⟨c,j,k⟩:=d i hi;exact⟨g,o,cap,c,(h9 l).2.2.2.2.2.2.2.2,j,k⟩
theorem rd.val{k:K (M+1)}(h:rd S w M k c)(a:Kd.sort k≠0):gF (M+1) k=true/\∃b,c=Zp (Zo ⟨b,0,Zn⟩)/\b9 S w (M+1) k (Zp (Zo ⟨b,0,Zn⟩)):=by
 rcases h with h|h;·obtain⟨b,e,-⟩:=h.2.ptr;subst e;exact⟨h.1,b,rfl,h.2⟩
 ·rw[h.1]at a;exact absurd rfl a
theorem tm{b:Nat}{k:K (n+1)}(h:b9 S w (n+1) k (Zp (Zo ⟨b,0,Zn⟩))):w.cell? ⟨b,0,Zn⟩=Zo (Zi .i64 (Kd.sort k)):=by obtain⟨d,g,i,f,c,e,a,-⟩:=h;injection c with c;injection c with c;injection c with c;subst c;exact (lY a).1
theorem zb (l:List Int) (s:Int) (lo:ZO) (a c b off cap:Nat) (w:Zw) (m:w.cell? ⟨c,0,Zn⟩=Zo (Zs (Zo ⟨b,off,Zn⟩) l.length cap)) (n:∀ i (h:i<l.length),w.cell? ⟨b,off+i,Zn⟩=Zo (Zi .i64 l[i])) (p:l.length<=100) (o:w.cell? ⟨a,0,Zn⟩=Zo (Zi .i64 s)) :
  Calls prog 152 #[Zp lo,Zp (Zo ⟨a,0,Zn⟩),Zp (Zo ⟨c,0,Zn⟩)] w fun e d=>e=Zr (Zb (decide (s∈l)))/\Bw w d:=by have f:Bw w w.drew:=(Below.refl _ _).drew;have g:Hid (Calls prog 153 _ _ _):=uF l s b off cap w.drew n p;have j:w.drew.cell? ⟨c,0,Zn⟩=Zo (Zs (Zo ⟨b,off,Zn⟩) l.length cap):=m;have k:w.drew.cell? ⟨a,0,Zn⟩=Zo (Zi .i64 s):=o;clear n m o;go_in;go_upto_region 1 with fail;refine wp_region_held_drew (S:=fun d=>d.cell? ⟨c,0,Zn⟩=Zo (Zs (Zo ⟨b,off,Zn⟩) l.length cap)/\d.cell? ⟨a,0,Zn⟩=Zo (Zi .i64 s)) zK ⟨j,k⟩ (fun hHeld=>?_);generalize w.drew=V at *;refine tk 0 ?_;refine tk 1 ?_;refine tk 2 ?_;refine tk 3 ?_;refine tk 4 ?_;refine i6 5 fun K hK=>?_;go_simp;go_at_call 153;refine g.out.mono ?_;rintro e w1 ⟨rfl,rfl⟩;refine hK.out _ _ ⟨j,k⟩ (fun hHeld=>?_);clear hK K g;refine tk 6 ?_;refine wpAnyH_done zK ?_ _;go_simp;go_wp2;go_ret;exact⟨rfl,f⟩
theorem wi(a b:ZO)(w:Zw):Calls prog 122 #[Zp a,Zp b] w fun e d=>e=Zr (Zb true)/\Bw w d:=by have c:=Below.refl w.heap.size w;go_in;go_wp2;go_ret;exact⟨rfl,c⟩
theorem DH (n:Nat) (S:ZP) (a b:K n) (m g o d cap i k u p:Nat) (w:Zw) (A:Bd S w) (q:w.cell? ⟨m,8,Zn⟩=Zo (Zs (Zo ⟨g,o,Zn⟩) d cap)) (hi:i<d) (_hln:d<=1000) (t:w.cell? ⟨p,0,Zn⟩=Zo (Zi .i64 (i:Int)))
  (s:w.cell? ⟨g,o+i,Zn⟩=Zo (Zp (Zo ⟨k,0,Zn⟩))) (B:b9 S w n a (Zp (Zo ⟨k,0,Zn⟩))) (C:b9 S w n b (Zp (Zo ⟨u,0,Zn⟩))) (h:gF n a=true) (j:gF n b=true) :
  Calls prog 160 #[Zp (Zo ⟨m,0,Zn⟩),Zp (Zo ⟨u,0,Zn⟩),Zp (Zo ⟨p,0,Zn⟩)] w fun e l=>e=Zr (Zb (fI n b==fI n a))/\Bw w l:=by have f:Bw w w.drew:=(Below.refl _ _).drew;have v:Hid (Calls prog 161 #[Zp (Zo ⟨k,0,Zn⟩),Zp (Zo ⟨u,0,Zn⟩)] w.drew _):=lD B.drew C.drew A h j;have x:w.drew.cell? ⟨m,8,Zn⟩=Zo (Zs (Zo ⟨g,o,Zn⟩) d cap):=q;have y:w.drew.cell? ⟨p,0,Zn⟩=Zo (Zi .i64 (i:Int)):=t;have z:w.drew.cell? ⟨g,o+i,Zn⟩=Zo (Zp (Zo ⟨k,0,Zn⟩)):=s;have E:=d8 q;have F:=d8 t;have G:=d8 s;have D:(i:Int)<(d:Int):=om;clear s q t B C h j A;go_in;go_upto_region 1 with fail;refine wp_region_held_drew (S:=fun l=>l.cell? ⟨m,8,Zn⟩=Zo (Zs (Zo ⟨g,o,Zn⟩) d cap)/\l.cell? ⟨p,0,Zn⟩=Zo (Zi .i64 (i:Int))/\l.cell? ⟨g,o+i,Zn⟩=Zo (Zp (Zo ⟨k,0,Zn⟩))) zK ⟨x,y,z⟩ (fun hHeld=>?_);have H:w.drew.heap.size=w.heap.size:=rfl;generalize w.drew=V at *;refine tk 0 ?_;refine tk 1 ?_;refine tk 2 ?_;refine tk 3 ?_;refine tk 4 ?_;refine tk 5 ?_;refine tk 6 ?_;refine tk 7 ?_;refine i6 8 fun K hK=>?_;go_simp;go_at_call 161;refine v.out.mono ?_;rintro e w1 ⟨rfl,c⟩;refine hK.out _ _ ⟨kC c x om,kC c y om,kC c z om⟩ (fun hHeld=>?_);have r:=f.trans (c.mono f.size);clear hK K v c;refine tk 9 ?_;refine wpAnyH_done zK ?_ _;go_simp;go_wp2;go_ret;exact⟨rfl,r⟩
theorem tz (M:Nat) (S:ZP) (a b:K (M+1)) (u g o v cap m t:Nat) (w:Zw) (q:Bd S w) (C:w.cell? ⟨u,8,Zn⟩=Zo (Zs (Zo ⟨g,o,Zn⟩) (v+1) cap)) (_hln:v<=1000)
  (D:w.cell? ⟨g,o,Zn⟩=Zo (Zp (Zo ⟨m,0,Zn⟩))) (r:b9 S w (M+1) a (Zp (Zo ⟨m,0,Zn⟩))) (s:b9 S w (M+1) b (Zp (Zo ⟨t,0,Zn⟩))) (h:gF (M+1) a=true) (i:gF (M+1) b=true) (y:Kd.sort a=6) :
  Calls prog 130 #[Zp (Zo ⟨u,0,Zn⟩),Zp (Zo ⟨t,0,Zn⟩)] w fun e A=>e=Zr (Zb (ji b (mQ a)))/\Bw w A:=by obtain⟨c,x,z,d,B,l,k,f⟩:=r.within h (.inr y);have n:=a7 (k5 w m x z 0 d B l k om);have p:=a7 (lD f s q c i);clear r s q h i f c;go_in;go_wp2_with fail;refine n.out.mono ?_;rintro e w1 ⟨rfl,rfl⟩;clear n;go_wp2_with fail;refine p.out.mono ?_;rintro e w1 ⟨rfl,j⟩;clear p;go_wp2;go_ret;exact⟨rfl,j⟩
theorem xe (M:Nat) (S:ZP) (a b:K (M+1)) (l m k:Nat) (w:Zw) (h:Bd S w) (o:w.cell? ⟨l,7,Zn⟩=Zo (Zp (Zo ⟨m,0,Zn⟩)))
  (i:b9 S w (M+1) a (Zp (Zo ⟨m,0,Zn⟩))) (j:b9 S w (M+1) b (Zp (Zo ⟨k,0,Zn⟩))) (c:gF (M+1) a=true) (d:gF (M+1) b=true) :
  Calls prog 131 #[Zp (Zo ⟨l,0,Zn⟩),Zp (Zo ⟨k,0,Zn⟩)] w fun e n=>e=Zr (Zb (ji b a))/\Bw w n:=by have g:=a7 (lD i j h c d);clear i j h c d;go_in;go_wp2_with fail;refine g.out.mono ?_;rintro e w1 ⟨rfl,f⟩;clear g;go_wp2;go_ret;exact⟨rfl,f⟩
end Go.Proofs.YtcfojmaccikgeaaGreatDoor
