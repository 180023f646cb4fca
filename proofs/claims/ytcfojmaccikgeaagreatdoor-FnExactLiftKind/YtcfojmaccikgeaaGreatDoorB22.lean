import Derived.Test.YtcfojmaccikgeaaGreatDoorB21
import Derived.BigQuiet
import Derived.Test.YtcfojmaccikgeaaGreatDoorB2
open Go.Value renaming slice→Zs,int→Zi,string→Zt,pointer→Zp,bool→Zb
open Go.IntKind renaming i64→Zk
open Go.Ending renaming returned→Zr
open Option renaming none→Zn,some→Zo
open Go renaming World→Zw,Value→Zv
namespace Go.Proofs.YtcfojmaccikgeaaGreatDoor
open Go.RowKit Go.Proofs.Tryz
set_option maxRecDepth 100000
set_option maxHeartbeats 16000000
variable {S:Nat->Prop} {w:Zw} {l:List ByteArray} {ao:Option Addr} {cap n m rb:Nat} {c0 v3 v4:Zv} {P:Program}
theorem fL.take(h:fL S w l (Zs ao l.length cap))(k:Nat)(t:k<=l.length):fL S w (l.take k) (Zs ao k cap):=by
 obtain⟨o,f,g,u,q,j⟩:=h;cases g
 have e:(l.take k).length=k:=zE;refine⟨ao,cap,by rw[e],by rw[e];omega,fun s p=>q s (List.mem_of_mem_take p),fun c=>?_⟩;have d:l≠[]:=fun m=>c (by rw[m];simp);obtain⟨b,off,n,r,a⟩:=j d;exact⟨b,off,n,r,fun i hi=>by rw[a i om,List.getElem_take]⟩
theorem fL.tail{a:ByteArray}{q:List ByteArray}(h:fL S w (a :: q) (Zs ao n cap))(e:n<=cap):fL S w q (sliced ao 1 n cap 1):=by
 obtain⟨l,f,g,k,o,j⟩:=h;cases g
 obtain⟨b,off,rfl,p,c⟩:=j zS;simp only[List.length_cons]at k e ⊢;unfold sliced;refine⟨if cap=1 then Zo ⟨b,off,Zn⟩ else Zo ((⟨b,off,Zn⟩:Addr).add 1),cap-1,zS,om,fun s m=>o s (List.mem_cons_of_mem _ m),fun d=>?_⟩;have r:0<q.length:=List.length_pos_iff.2 d;refine⟨b,off+1,by rw[if_neg om];simp[Addr.add],p,fun i hi=>?_⟩;have:=c (i+1) zE;rw[show off+1+i=off+(i+1) by omega];simpa using this
theorem ig.tail{α:Type}{R:α->Zv->Zv->Zv->Zv->Zv->Prop}{a:α}{q:List α}(h:ig S w R (a :: q) (Zs ao n cap))(e:n<=cap):ig S w R q (sliced ao 1 n cap 5):=by
 obtain⟨l,f,g,k,j⟩:=h;cases g
 obtain⟨b,off,rfl,m,c⟩:=j zS;simp only[List.length_cons]at k e ⊢;unfold sliced;refine⟨if cap=1 then Zo ⟨b,off,Zn⟩ else Zo ((⟨b,off,Zn⟩:Addr).add 5),cap-1,zS,om,fun d=>?_⟩;have o:0<q.length:=List.length_pos_iff.2 d;refine⟨b,off+5,by rw[if_neg om];simp[Addr.add],m,fun i hi=>?_⟩;have:=c (i+1) zE;rw[show off+5+i*5=off+(i+1)*5 by omega];simpa using this
theorem C4 (S:Nat->Prop) (l:List ByteArray) (v:Zv) (x:ByteArray) (w:Zw) (o:fL S w l v) :
  Calls prog 245 #[v,Zt x] w fun e q=>q=w/\∃i:Int,e=Zr (Zi Zk i)/\decide (0<=i)=l.contains x:=by
 obtain⟨t,cap,rfl,g,r,m⟩:=o;unfold maxLen at g;go_in;go_wp2;go_loop [8] (fun i=>∃k:Nat,k<=l.length/\i=Zi Zk k/\Hid ((l.take k).contains x=false)) (fun i=>l.length-(intOf i).toNat);case atStart=>exact⟨0,Nat.zero_le _,rfl,rfl⟩
 case round=>
  obtain⟨k,s,rfl,j⟩:=hrel;by_cases c:k<l.length
  ·obtain⟨b,off,rfl,-,a⟩:=m (by intro h;rw[h]at c;simp at c);have p:=a k c;cases hq:(x==l[k]) with
   | true=>
    have n:=(js x l[k]).trans hq;have f:Hid (decide (0<=(k:Int))=l.contains x):=by
     show _=_;rw[decide_eq_true om];have:x=l[k]:=by rw[As]at hq;simpa using hq
     rw[this];symm;rw[List.contains_eq_any_beq,List.any_eq_true];exact⟨l[k],List.getElem_mem c,by rw[As];simp⟩
    clear m a hq j;go_wp2;go_ret;exact⟨rfl,_,rfl,f.out⟩
   | false=>
    have n:=(js x l[k]).trans hq;have f:Hid ((l.take (k+1)).contains x=false):=by show _=_;have d:=j.out;rw[List.contains_eq_any_beq]at d ⊢;rw[List.take_succ_eq_append_getElem c,List.any_append,d];simp[hq]
    clear m a hq j;go_wp2;go_round;case rel=>exact⟨k+1,om,by go_num,f⟩
    case measure=>simp[intOf];omega
  ·have f:Hid (decide (0<=(-1:Int))=l.contains x):=by show _=_;have d:=j.out;rw[List.take_of_length_le om]at d;rw[d];rfl
   clear m r j;go_wp2;go_ret;exact⟨rfl,_,rfl,f.out⟩
theorem xe (S:Nat->Prop) (l:List ByteArray) (v:Zv) (x:ByteArray) (w:Zw) (a:fL S w l v) :
  Calls prog 229 #[v,Zt x] w fun e d=>d=w/\e=Zr (Zb (l.contains x)):=by
 obtain⟨g,cap,f,-⟩:=id a;subst f;have b:Hid (Calls prog 245 _ _ _):=C4 S l _ x w a;go_in;go_wp2_with fail;refine b.out.mono ?_;rintro e w1 ⟨rfl,i,rfl,hi⟩;have c:=a7 hi;clear hi b a;by_cases h:0<=i;·go_wp2;go_ret;exact⟨rfl,b6 (by rw[<- c.out];simp[h])⟩
 ·go_wp2;go_ret;exact⟨rfl,b6 c.out⟩
theorem vY (S:Nat->Prop) (b:Nat) (p:UInt8) (s:ByteArray) (a:List ByteArray) (v:Zv) (w:Zw) (j:s.size<=maxLen) (k:kz w b) (i:fL S w a v) :
  Calls prog 210 #[Zp (Zo ⟨b,0,Zn⟩),Zi .i32 (p.toNat:Int),Zt s,v] w fun e m=>e=Zr (Zb (iZ p s a))/\m=w:=by
 obtain⟨o,cap,n,-⟩:=id i;subst n;have g:Hid (Calls prog 81 _ _ _):=k6 s w j;have c:Hid (Calls prog 228 _ _ _):=rG b s w j k;have h:Hid (Calls prog 229 _ _ _):=xe S a _ s w i;clear k i;by_cases f:p=78
 ·have l:((p.toNat:Int)==78)=true:=by subst f;rfl
  have d:Hid (iZ p s a=gh s):=by show _=_;unfold iZ;rw[if_pos f]
  clear f;go_in;go_wp2_with fail;refine g.out.mono ?_;rintro e w1 ⟨rfl,rfl⟩;go_wp2;go_ret;exact⟨b6 d.out.symm,rfl⟩
 ·have l:((p.toNat:Int)==78)=false:=by have:¬p.toNat=78:=fun e=>f (UInt8.toNat_inj.1 e);simp;omega
  have d:Hid (iZ p s a=(ii s && !(a.contains s))):=by show _=_;unfold iZ;rw[if_neg f]
  clear f;cases hf:ii s with
  | false=>rw[hf]at d c;go_in;go_wp2_with fail;refine c.out.mono ?_;rintro e w1 ⟨rfl,rfl⟩;go_wp2;go_ret;exact⟨b6 (by rw[d.out];rfl),rfl⟩
  | true=>rw[hf]at d c;go_in;go_wp2_with fail;refine c.out.mono ?_;rintro e w1 ⟨rfl,rfl⟩;go_wp2_with fail;refine h.out.mono ?_;rintro e w1 ⟨rfl,rfl⟩;go_wp2;go_ret;exact⟨b6 (by rw[d.out];simp),rfl⟩
structure vJ(S:Nat->Prop)(w:Zw)(m rb:Nat)(r:Nd (T m))(c0 v3 v4:Zv):Prop where
 box:w.heap[rb]?=Zo (.cells #[c0,Zi Zk r.num,Zt r.text,v3,v4] 40 (0,0))
 n3:fL S w r.names v3
 k3:mz v3
 n4:ig S w (fZ S w m) r.kids v4
 k4:mz v4
theorem vJ.keep{w':Zw}{r:Nd (T m)}(h:vJ S w m rb r c0 v3 v4)(a:jy S w w')(b:w'.heap[rb]?=w.heap[rb]?):vJ S w' m rb r c0 v3 v4:=
 ⟨b.trans h.box,h.n3.keep a (fun _ h=>h),h.k3,h.n4.keepN a (fun _ h=>h),h.k4⟩
theorem vJ.lt{r:Nd (T m)}(h:vJ S w m rb r c0 v3 v4):rb<w.heap.size:=(Array.getElem?_eq_some_iff.1 h.box).1
theorem vJ.cells {r:Nd (T m)} (h:vJ S w m rb r c0 v3 v4) :
  (w.cell? ⟨rb,1,Zn⟩=Zo (Zi Zk r.num)/\w.cell? ⟨rb,2,Zn⟩=Zo (Zt r.text)/\w.cell? ⟨rb,3,Zn⟩=Zo v3/\w.cell? ⟨rb,4,Zn⟩=Zo v4) /\
  (w.frozen? ⟨rb,1,Zn⟩=false/\w.frozen? ⟨rb,2,Zn⟩=false/\w.frozen? ⟨rb,3,Zn⟩=false/\w.frozen? ⟨rb,4,Zn⟩=false):=by have:=h.box;refine⟨⟨?_,?_,?_,?_⟩,?_,?_,?_,?_⟩<;>simp[World.cell?,World.frozen?,this]
theorem lF{b i:Nat}{cs:Array Zv}{t:TypeId}{z:Nat×Nat}(h:w.heap[b]?=Zo (.cells cs t z))(v:Zv):(w.setCell ⟨b,i,Zn⟩ v).heap[b]?=Zo (.cells (cs.setIfInBounds i v) t z):=by simp[World.setCell,Array.getElem?_modify,h]
def hh(S:Nat->Prop)(m a:Nat)(n r:Nd (T m))(c0:Zv)(p:UInt8)(w:Zw)(e:Ending)(w':Zw):Prop:=
 b7 a w w' /\ ((∃b v3 v4,jL (jT m) n r p=Zo b/\e=Zr (Zb true)/\vJ S w' m a b c0 v3 v4)∨(jL (jT m) n r p=Zn/\e=Zr (Zb false)))
theorem fZ.op:∀ {m:Nat} {t:T m} {c0 c1 c2 c3 c4:Zv},fZ S w m t c0 c1 c2 c3 c4->c0=Zi Zk (pU m t):=by
 intro m;cases m with
 | zero=>intro t c0 c1 c2 c3 c4 h;exact h.elim
 | succ m=>intro t c0 c1 c2 c3 c4 h;exact h.1
theorem nd (t:TypeId) (sz:Nat) (b:P.underlying t=Zo (.slice (P.elem t))) (d:∀ W,(sizeOf (P.elem t)).run P W=.ok sz W) (a:Option Addr) (n c:Nat) (h:1<=n) (W:Zw) :
  (Instr.slice t (Zs a n c) (Zo (Zi Zk 1)) Zn Zn).run P W=.ok (sliced a 1 n c sz) W:=by rw[run_slice_l W t a n c b Zk 1 om om,d];rfl
theorem rN (S:Nat->Prop) (m:Nat) (p:UInt8) (Q:p=86∨p=65) (d:Nat) (n r:Nd (T m)) (c0 v3 v4:Zv) (w:Zw) (j:vJ S w m d r c0 v3 v4) (M:∀ b,S b->b<w.heap.size/\b≠d) :
  Calls prog 185 #[Zp (Zo ⟨d,0,Zn⟩),Zi .i32 (p.toNat:Int)] w (hh S m d n r c0 p w):=by
 obtain⟨⟨-,-,-,g4⟩,-,-,-,f4⟩:=j.cells;have s:=j.lt;obtain⟨ka,kl,E,K,y⟩:=j.k4;subst K;obtain⟨ab,Y,hv,hl,R⟩:=id j.n4;cases hv
 cases hks:r.kids with
 | nil=>have V:Hid (hh S m d n r c0 p w (Zr (Zb false)) w):=⟨b7.refl _ _,.inr ⟨BC _ n r Q hks,rfl⟩⟩;rw[hks]at g4;clear j R M;go_in;go_wp2;go_ret;exact V.out
 | cons a q=>
  obtain⟨b,off,rfl,ad,g⟩:=R (by rw[hks];simp);obtain⟨d0,d1,d2,d3,d4,e0,e1,e2,e3,e4,U⟩:=g 0 (by rw[hks];simp);obtain⟨i,z,A,C,F,J,B,G,I,rfl,rfl,rfl,rfl,rfl⟩:=U.shape;simp only[Nat.zero_mul,Nat.add_zero]at e0 e1 e2 e3 e4;have t:i=pU m a:=by
   have h1:=U.op;have h2:r.kids[0]'(by rw[hks];simp)=a:=by simp[hks]
   rw[h2]at h1;exact (Value.int.inj h1).2
  have O:1<=r.kids.length:=by rw[hks];simp
  clear R g U;generalize L:r.kids.length=kn at *;have ac:((kn:Int)==0)=false:=zE;have X:=nd (P:=prog) 38 5 underlying38 (fun _=>by simp[go_sem]) (Zo ⟨b,off,Zn⟩) kn E O;have o:ig S w (fZ S w m) q (sliced (Zo ⟨b,off,Zn⟩) 1 kn E 5):=by have Z:=j.n4;rw[hks]at Z;exact Z.tail y
  obtain⟨x,u,v,D⟩:∃x u v,sliced (Zo ⟨b,off,Zn⟩) 1 kn E 5=Zs x u v:=⟨_,_,_,rfl⟩;have f:mz (Zs x u v):=by rw[<- D];exact⟨_,_,_,rfl,om⟩
  rw[D]at X o;have l:=(Below.refl w.heap.size w).alloc (Nat.le_refl _) (.cells #[Zi Zk i,Zi Zk z,Zt A,Zs C F J,Zs B G I] 40);obtain⟨W,H⟩:=iw ((w.setCell ⟨d,4,Zn⟩ (Zs x u v)).alloc (.cells #[Zi Zk i,Zi Zk z,Zt A,Zs C F J,Zs B G I] 40));have c:b7 d w W:=by rw[H];exact (b7.set d 4 _ _).trans (b7.alloc _ _ _)
  have k:vJ S W m d ⟨r.sort,r.num,r.text,r.names,q⟩ c0 v3 (Zs x u v):=by have hs:=c.same M;refine⟨?_,j.n3.keep hs (fun _ h=>h),j.k3,o.keepN hs (fun _ h=>h),f⟩;rw[H];exact (Below.heap_alloc _ _ _ (by simpa using s)).trans (lF j.box _)
  have HC:Hid (∀w,Calls prog 37 #[Zi Zk i] w _):=fun w=>ny i w;have V:Hid (∀N,N=W->hh S m d n r c0 p w (Zr (Zb (rP i==(p.toNat:Int)))) N):=by
   intro N e;subst e;refine⟨c,?_⟩;by_cases h:jT m a=(p.toNat:Int)
   ·refine .inl ⟨_,_,_,(uW _ n r Q hks).trans (if_pos h),?_,k⟩;have:rP i=(p.toNat:Int):=by rw[t];exact h
    rw[this];simp
   ·refine .inr ⟨(uW _ n r Q hks).trans (if_neg h),?_⟩;have:¬rP i=(p.toNat:Int):=by rw[t];exact h
    simp[this]
  have af:(w.alloc (.cells #[Zi Zk i,Zi Zk z,Zt A,Zs C F J,Zs B G I] 40)).cell? ⟨d,4,Zn⟩=Zo (Zs (Zo ⟨b,off,Zn⟩) kn E):=kC l g4 s;have ae:(w.alloc (.cells #[Zi Zk i,Zi Zk z,Zt A,Zs C F J,Zs B G I] 40)).frozen? ⟨d,4,Zn⟩=false:=(l.frozen (p:=⟨d,4,Zn⟩) s).trans f4;have aa:w.heap.size≠d:=om;have ag:=a7 D;have HW:=a7 H;clear j hks L t o f k c l D H M;go_in;go_wp2_with fail;refine (HC.out _).mono ?_;rintro e w1 ⟨rfl,rfl⟩;go_wp2;go_ret;exact V.out _ HW.out.symm
theorem E6 (t:TypeId) (sz:Nat) (b:P.underlying t=Zo (.slice (P.elem t))) (d:∀ W,(sizeOf (P.elem t)).run P W=.ok sz W) (a:Option Addr) (n c:Nat) (k:Int) (e:0<=k) (h:k<=c) (W:Zw) :
  (Instr.slice t (Zs a n c) Zn (Zo (Zi Zk k)) Zn).run P W=.ok (sliced a 0 k.toNat c sz) W:=by rw[run_slice_h W t a n c b Zk k e h,d];rfl
theorem DQ(h:fL S w l (Zs ao l.length cap))(k:Nat)(d:k<=l.length):fL S w (l.take k) (sliced ao 0 k cap 1):=by
 have c:=h.take k d;unfold sliced;have e:(if cap=0 then ao else ao.map (·.add (0*1)))=ao:=by
  split;·rfl
  ·cases ao with
   | none=>rfl
   | some a=>obtain⟨b,o,s⟩:=a;cases s<;>simp[Addr.add]
 rw[e,Nat.sub_zero,Nat.sub_zero];exact c
theorem qT (S:Nat->Prop) (m:Nat) (p:UInt8) (N:p=78∨p=88) (v f:Nat) (n r:Nd (T m)) (c0 v3 v4 L:Zv) (w:Zw) (l:vJ S w m f r c0 v3 v4) (H:∀ b,S b->b<w.heap.size/\b≠f)
  (x:kz w v) (Q:v≠f) (g:fL S w n.names L) (ad:mz L) (Y:r.names.length<=n.names.length) :
  Calls prog 184 #[Zp (Zo ⟨v,0,Zn⟩),Zp (Zo ⟨f,0,Zn⟩),Zi .i32 (p.toNat:Int),L] w (hh S m f n r c0 p w):=by
 obtain⟨⟨-,-,g3,-⟩,-,-,f3,-⟩:=l.cells;have ab:=l.lt;obtain⟨ka,kl,X,Z,G⟩:=l.k3;subst Z;obtain⟨am,ai,hv,hl,F,V⟩:=id l.n3;cases hv
 obtain⟨aa,al,ac,K,ae⟩:=ad;subst K;obtain⟨_,_,ah,J,-,-⟩:=id g;cases ah
 cases hks:r.names with
 | nil=>have HP:Hid (hh S m f n r c0 p w (Zr (Zb false)) w):=⟨b7.refl _ _,.inr ⟨zh _ n r N hks,rfl⟩⟩;rw[hks]at g3;clear l V H g;go_in;go_wp2;go_ret;exact HP.out
 | cons a q=>
  obtain⟨b,off,rfl,R,j⟩:=V (by rw[hks];simp);have e0:=j 0 (by rw[hks];simp);have h2:r.names[0]'(by rw[hks];simp)=a:=by simp[hks]
  rw[h2,Nat.add_zero]at e0;have E:a.size<=maxLen:=F a (by rw[hks];exact List.mem_cons_self ..);have M:1<=r.names.length:=by rw[hks];simp
  have af:r.names.length=q.length+1:=by rw[hks];simp
  clear V j h2;have y:fL S w q (sliced (Zo ⟨b,off,Zn⟩) 1 r.names.length X 1):=by have h4:=l.n3;rw[hks]at h4;have:=h4.tail (by rw[<- hks];exact G);rw[hks];exact this
  have d:=DQ g (n.names.length-(q.length+1)) om;generalize I:r.names.length=kn at *;generalize z:n.names.length=an at *;have aj:((kn:Int)==0)=false:=zE;have ag:=nd (P:=prog) 23 1 underlying23 (fun _=>by simp[go_sem]) (Zo ⟨b,off,Zn⟩) kn X M;have u:=E6 (P:=prog) 23 1 underlying23 (fun _=>by simp[go_sem]) aa an ac ((an:Int)-(kn:Int)) om om;have C:((an:Int)-(kn:Int)).toNat=an-(q.length+1):=om;rw[C]at u;obtain⟨t,o,s,U⟩:∃t o s,sliced (Zo ⟨b,off,Zn⟩) 1 kn X 1=Zs t o s:=⟨_,_,_,rfl⟩;obtain⟨ua,un,uc,hU⟩:∃t o s,sliced aa 0 (an-(q.length+1)) ac 1=Zs t o s:=⟨_,_,_,rfl⟩;have i:mz (Zs t o s):=by rw[<- U];exact⟨_,_,_,rfl,om⟩
  rw[U]at ag y;rw[hU]at u d;have O:Hid (∀k,b7 f w ((w.drewN k).setCell ⟨f,3,Zn⟩ (Zs t o s))/\vJ S ((w.drewN k).setCell ⟨f,3,Zn⟩ (Zs t o s)) m f ⟨r.sort,r.num,r.text,q,r.kids⟩ c0 (Zs t o s) v4):=by intro k;have D:Bw w (w.drewN k):=⟨rfl,rfl,rfl,Nat.le_refl _,fun _ _=>rfl⟩;have c:b7 f w ((w.drewN k).setCell ⟨f,3,Zn⟩ (Zs t o s)):=(b7.of_below D).trans (b7.set f 3 _ _);have hs:=c.same H;exact⟨c,lF ((D.block f ab).trans l.box) _,y.keep hs (fun _ h=>h),i,l.n4.keepN hs (fun _ h=>h),l.k4⟩
  have HC:Hid (∀W,b7 f w W->Calls prog 210 #[Zp (Zo ⟨v,0,Zn⟩),Zi .i32 (p.toNat:Int),Zt a,Zs ua un uc] W fun e w'=>e=Zr (Zb (iZ p a (n.names.take (an-(q.length+1)))))/\w'=W):=by
   intro W hW;have A:v<w.heap.size:=by have:=(x 0 om).1;exact Classical.byContradiction fun ak=>by have h0:w.heap[v]?=Zn:=Array.getElem?_eq_none om;simp[World.cell?,h0]at this
   exact vY S v p a _ _ W E (x.keep (hW.block v A Q)) (d.keep (hW.same H) (fun _ h=>h))
  have HP:Hid (∀W,b7 f w W->vJ S W m f ⟨r.sort,r.num,r.text,q,r.kids⟩ c0 (Zs t o s) v4->hh S m f n r c0 p w (Zr (Zb (iZ p a (n.names.take (an-(q.length+1)))))) W):=by
   intro W c B;refine⟨c,?_⟩;cases h:iZ p a (n.names.take (an-(q.length+1))) with
   | true=>exact .inl ⟨_,_,_,(qh _ n r N hks).trans (if_pos (by rw[z];exact h)),rfl,B⟩
   | false=>exact .inr ⟨(qh _ n r N hks).trans (if_neg (by rw[z,h];decide)),rfl⟩
  generalize iZ p a (n.names.take (an-(q.length+1)))=ok at *;unfold maxLen at J hl;clear l hks I z y i d U hU H g x C af F Y R E;go_in;go_wp2_with fail;go_quiet (fail);go_wp2_with fail;refine (HC.out _ (O.out _).1).mono ?_;rintro e w1 ⟨rfl,rfl⟩;clear HC;go_wp2;go_ret;exact HP.out _ (O.out _).1 (O.out _).2
theorem rK (S:Nat->Prop) (l:List ByteArray) (i:Nat) (hi:i<l.length) (v:Zv) (w:Zw) (p:fL S w (l.take i) v) (x:l[i].size<=maxLen) :
  Calls prog 209 #[Zt l[i],v] w fun e r=>e=Zr (Zb (kA l i))/\r=w:=by
 obtain⟨q,cap,rfl,f,-,n⟩:=p;have h:(l.take i).length=i:=zE;rw[h]at f ⊢;unfold maxLen at f;have j:l.getD i ByteArray.empty=l[i]:=by simp[List.getD,hi]
 have g:Hid (kA l i=(gh l[i] && (i==0 || kJ (l.getD (i-1) ByteArray.empty) l[i]) && !(l[i]==bs [101,110,100]))):=by show _=_;unfold kA iU;rw[j]
 have a:Hid (Calls prog 81 _ _ _):=k6 l[i] w x;have C:=px l[i] [101,110,100];have c:0<i->∃b off,q=Zo ⟨b,off,Zn⟩/\w.cell? ⟨b,off+(i-1),Zn⟩=Zo (Zt (l.getD (i-1) ByteArray.empty)):=fun k=>by obtain⟨b,off,o,-,d⟩:=n (by intro e;have:=congrArg List.length e;rw[h]at this;simp at this;omega);refine⟨b,off,o,?_⟩;have:=d (i-1) om;rw[this];have A:i-1<l.length:=om;simp[List.getD,A]
 clear n j;generalize l[i]=s at *;generalize l.getD (i-1) ByteArray.empty=z at *;generalize (s==bs [101,110,100])=b1 at *;clear hi;cases hn:gh s with
 | false=>rw[hn]at a g;go_in;go_wp2_with fail;refine a.out.mono ?_;rintro e w1 ⟨rfl,rfl⟩;go_wp2;go_ret;exact⟨b6 (by rw[g.out];rfl),rfl⟩
 | true=>
  rw[hn]at a g;cases b1 with
  | true=>go_in;go_wp2_with fail;refine a.out.mono ?_;rintro e w1 ⟨rfl,rfl⟩;go_wp2;go_ret;exact⟨b6 (by rw[g.out];simp),rfl⟩
  | false=>
   rcases Nat.eq_zero_or_pos i with k|k;·subst k;go_in;go_wp2_with fail;refine a.out.mono ?_;rintro e w1 ⟨rfl,rfl⟩;go_wp2;go_ret;exact⟨b6 (by rw[g.out];rfl),rfl⟩
   ·obtain⟨b,off,rfl,d⟩:=c k;have B:((i:Int)==0)=false:=zE;have m:(i==0)=false:=zE;rw[m]at g;have y:((i:Int)-1).toNat=i-1:=om;have t:Hid (kJ z s=Op.bytesLess z.toList s.toList):=rfl;clear m c;generalize u:Op.bytesLess z.toList s.toList=lt at *;go_in;go_wp2_with fail;refine a.out.mono ?_;rintro e w1 ⟨rfl,rfl⟩;go_wp2;go_ret;exact⟨b6 (by rw[g.out,t.out];simp),rfl⟩
theorem ug (S:Nat->Prop) (m:Nat) (n:Nd (T m)) (v3 v4:Zv) (w:Zw) (y:fL S w n.names v3) (A:mz v3) (P:ig S w (fZ S w m) n.kids v4) :
  Calls prog 183 #[v3,v4] w fun e E=>e=Zr (Zb (iH (jT m) n))/\E=w:=by
 obtain⟨na,nl,H,rfl,I⟩:=A;obtain⟨_,_,O,B,q,j⟩:=id y;cases O
 obtain⟨Z,V,rfl,z,l⟩:=P;by_cases g:n.names.length=n.kids.length;case neg=>
  have N:((n.names.length:Int)==(n.kids.length:Int))=false:=zE;have t:Hid (iH (jT m) n=false):=by
   show _=_;unfold iH;have:(n.names.length==n.kids.length)=false:=by simp[g]
   rw[this];rfl
  clear l j y;go_in;go_wp2;go_ret;exact⟨b6 t.out.symm,rfl⟩
 have t:Hid (iH (jT m) n=iN (jT m) n n.names.length):=by
  show _=_;unfold iH;have:(n.names.length==n.kids.length)=true:=by simp[g]
  rw[this];rfl
 have D:((n.names.length:Int) != (n.kids.length:Int))=false:=by simp[g]
 have C:Hid (∀(k:Nat)(v:k<n.names.length),Calls prog 209 #[Zt n.names[k],Zs na k H] w fun e E=>e=Zr (Zb (kA n.names k))/\E=w):=by intro k v;exact rK S n.names k v _ w (y.take k om) (q _ (List.getElem_mem v))
 have L:Hid (∀x w,Calls prog 37 #[Zi Zk x] w _):=fun x w=>ny x w;unfold maxLen at B z;have F:n.names.length<=n.kids.length:=om;have J:n.kids.length<=n.names.length:=om;clear y q g;go_in;go_wp2_with fail;clear D;go_loop [14] (fun i=>∃k:Nat,k<=n.names.length/\i=Zi Zk k/\Hid (iN (jT m) n k=true)) (fun i=>n.names.length-(intOf i).toNat);case atStart=>exact⟨0,Nat.zero_le _,rfl,rfl⟩
 case round=>
  obtain⟨k,v,rfl,u⟩:=hrel;by_cases d:k<n.names.length
  ·obtain⟨b,off,rfl,-,f⟩:=j (by intro h;rw[h]at d;simp at d);have Y:=f k d;obtain⟨b2,K,rfl,-,a⟩:=l (by intro h;have:=List.length_eq_zero_iff.2 h;omega);obtain⟨d0,X,U,d3,W,k0,-,-,-,-,r⟩:=a k om;obtain rfl:=r.op;have c:=a7 (C.out k d);have Q:(k:Int)<=(H:Int):=om;have p:Hid (iN (jT m) n (k+1)=(kA n.names k && (rP (pU m (n.kids[k]'om))==86))):=by show _=_;rw[oZ,u.out];have R:k<n.kids.length:=om;simp[List.getD,R,jT]
   have G:Hid (iN (jT m) n (k+1)=false->iN (jT m) n n.names.length=false):=by intro h;refine sO _ _ k d ?_;rw[oZ,u.out]at h;simpa using h
   clear j l f a C r;have o:(k:Int)<(n.kids.length:Int):=om;generalize pU m (n.kids[k]'om)=op at *;generalize n.names[k]=s at *;cases hf:kA n.names k with
   | false=>rw[hf]at c p;go_wp2_with fail;refine c.out.mono ?_;rintro e w1 ⟨rfl,rfl⟩;go_wp2;go_ret;exact⟨b6 (by rw[t.out,G.out (by rw[p.out];rfl)]),rfl⟩
   | true=>
    rw[hf]at c p;cases hpo:(rP op==86) with
    | true=>
     rw[hpo]at p;go_wp2_with fail;refine c.out.mono ?_;rintro e w1 ⟨rfl,rfl⟩;go_wp2_with fail;refine (L.out _ _).mono ?_;rintro e w1 ⟨rfl,rfl⟩;go_wp2;go_round;case rel=>exact⟨k+1,om,by go_num,p⟩
     case measure=>simp[intOf];omega
    | false=>rw[hpo]at p;go_wp2_with fail;refine c.out.mono ?_;rintro e w1 ⟨rfl,rfl⟩;go_wp2_with fail;refine (L.out _ _).mono ?_;rintro e w1 ⟨rfl,rfl⟩;go_wp2;go_ret;exact⟨b6 (by rw[t.out,G.out (by rw[p.out];rfl)]),rfl⟩
  ·have o:k=n.names.length:=by omega
   have M:Hid (iH (jT m) n=true):=by show _=_;rw[t.out,<- o,u.out]
   clear o j l C u;go_wp2;go_ret;exact⟨b6 M.out.symm,rfl⟩
end Go.Proofs.YtcfojmaccikgeaaGreatDoor
