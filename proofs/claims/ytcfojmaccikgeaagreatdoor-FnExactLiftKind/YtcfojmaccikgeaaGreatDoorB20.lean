import Derived.Test.YtcfojmaccikgeaaGreatDoorB13
import Derived.Test.YtcfojmaccikgeaaGreatDoorB11
import Derived.Test.YtcfojmaccikgeaaGreatDoorB17
import Derived.Test.YtcfojmaccikgeaaGreatDoorB2
open Go.Value renaming slice→Zs,int→Zi,string→Zt,agg→Za
open Go.IntKind renaming i64→Zk
open Go.Ending renaming returned→Zr
open Go.Obj renaming cells→Zc
open Option renaming none→Zn,some→Zo
open Go renaming World→Zw,Value→Zv
open Nat renaming lt_of_lt_of_le→Zd
namespace Go.Proofs.YtcfojmaccikgeaaGreatDoor
open Go.RowKit Go.Proofs.Tryz
variable {S:Nat->Prop} {w:Zw} {X o M b:Nat} {kv g0 g1 g2 g3:Zv} {xs:List Zv}
def gM(S:Nat->Prop)(w:Zw)(n:Nat)(l:List (ByteArray×K n))(v:Zv):Prop:=
 ∃(a:Option Addr)(cap:Nat),v=Zs a l.length cap/\l.length<=maxLen /\
  (l≠[]->∃b off,a=Zo ⟨b,off,Zn⟩/\S b/\∀i (h:i<l.length),∃c0 c1 c2,w.cell? ⟨b,off+i*4,Zn⟩=Zo (Zt l[i].1)/\w.cell? ⟨b,off+i*4+1,Zn⟩=Zo c0 /\
   w.cell? ⟨b,off+i*4+2,Zn⟩=Zo c1/\w.cell? ⟨b,off+i*4+3,Zn⟩=Zo c2/\l[i].1.size<=maxLen/\a8 S w n l[i].2 c0 c1 c2)
theorem gM.keep{S':Nat->Prop}{w':Zw}{n:Nat}{l:List (ByteArray×K n)}{v:Zv}(h:gM S w n l v)(c:jy S w w')(f:∀b,S b->S' b):gM S' w' n l v:=by
 obtain⟨s,cap,m,r,o⟩:=h;refine⟨s,cap,m,r,fun e=>?_⟩;obtain⟨b,off,q,d,a⟩:=o e;refine⟨b,off,q,f b d,fun i hi=>?_⟩;obtain⟨c0,c1,c2,x,j,g,t,u,k⟩:=a i hi;exact⟨c0,c1,c2,(c.cell (p:=⟨b,off+i*4,Zn⟩) d).trans x,(c.cell (p:=⟨b,off+i*4+1,Zn⟩) d).trans j,(c.cell (p:=⟨b,off+i*4+2,Zn⟩) d).trans g,
  (c.cell (p:=⟨b,off+i*4+3,Zn⟩) d).trans t,u,k.keep c f⟩
def Ov(S:Nat->Prop)(X:Nat)(o:Option Nat)(w:Zw)(b:Nat):Prop:=S b∨(X<=b/\b<w.heap.size/\o≠Zo b)
theorem Ov.lt{o:Option Nat}(a:∀b,S b->b<X)(c:X<=w.heap.size):∀b,Ov S X o w b->b<w.heap.size:=by
 intro b h;rcases h with h|h;·have:=a b h;omega
 ·exact h.2.1
structure qG(S:Nat->Prop)(X M:Nat)(w:Zw)(kv:Zv)(ks:List (K (M+1)))(xs:List Zv):Prop where
 own:w.ownsRow X 31 3 kv ks.length xs
 at_:∀j (h:j<ks.length),∃c0 c1 c2,(xs[j*3]?=Zo c0/\xs[j*3+1]?=Zo c1/\xs[j*3+2]?=Zo c2)/\a8 (Ov S X kv.ownBlock w) w (M+1) ks[j] c0 c1 c2
theorem qG.keep{W:Zw}{d:List (K (M+1))}(h:qG S X M w kv d xs)(k:∀b,S b->b<X)(m:X<=w.heap.size)(c:Bw w W):qG S X M W kv d xs:=by
 refine⟨qt h.own fun g f=>c.block g (kw h.own g f).2,fun j e=>?_⟩;obtain⟨c0,c1,c2,i,l⟩:=h.at_ j e;refine⟨c0,c1,c2,i,l.keep (fun b a=>c.block b (Ov.lt k m b a)) fun b a=>?_⟩;rcases a with a|a;·exact .inl a
 ·exact .inr ⟨a.1,Zd a.2.1 c.size,a.2.2⟩
theorem qG.more {W1 Wa m:Zw} {d:List (K (M+1))} {k:K (M+1)} {c0 c1 c2:Zv} {one:Obj} {g cap:Nat} (h:qG S X M W1 kv d xs) (E:∀ b,S b->b<X) (_hX:X<=W1.heap.size)
  (F:a8 (Ov S X kv.ownBlock W1) W1 (M+1) k c0 c1 c2) (y:Wa.heap=W1.heap.push one)
  (p:m.ownsRow X 31 3 (Zs (Zo ⟨g,0,Zn⟩) (d.length+1) cap) (d.length+1) (xs++[c0,c1,c2])) (f:Wa.grownBy m kv.ownBlock) (u:kv.ownBlock=Zo g∨g=W1.heap.size+1) :
  qG S X M m (Zs (Zo ⟨g,0,Zn⟩) (d.length+1) cap) (d++[k]) (xs++[c0,c1,c2]):=by
 have R:m.heap.size ≥ W1.heap.size+1:=by have:=f.size;rw[y]at this;simp at this;omega
 have z:=kw h.own;have C:∀b,b<W1.heap.size->kv.ownBlock≠Zo b->m.heap[b]?=W1.heap[b]?:=fun b a w=>by rw[f.block b (by rw[y];simp;omega) (fun e=>w e.symm),y,Array.getElem?_push_lt a,Array.getElem?_eq_getElem a]
 have A:xs.length=d.length*3:=h.own.1;have q:∀b,kv.ownBlock≠Zo b->b<W1.heap.size->(Value.slice (Zo ⟨g,0,Zn⟩) (d.length+1) cap).ownBlock≠Zo b:=by
  intro b J Q e;have e:g=b:=by simpa [Value.ownBlock] using e
  rcases u with D|D;·exact J (by rw[D,e])
  ·omega
 have i:∀ {x:K (M+1)} {s r n:Zv},a8 (Ov S X kv.ownBlock W1) W1 (M+1) x s r n->a8 (Ov S X (Value.slice (Zo ⟨g,0,Zn⟩) (d.length+1) cap).ownBlock m) m (M+1) x s r n:=by
  intro x s r n G;refine G.keep (fun b a=>?_) fun b a=>?_
  ·rcases a with a|a;·have:=E b a;exact C b om fun e=>by have:=z b e;omega
   ·exact C b a.2.1 a.2.2
  ·rcases a with a|a;·exact .inl a
   ·exact .inr ⟨a.1,by have:=a.2.1;omega,q b a.2.2 a.2.1⟩
 refine⟨by rw[List.length_append,List.length_singleton];exact p,fun j I=>?_⟩;by_cases t:j<d.length
 ·obtain⟨s,r,n,⟨H,O,L⟩,P⟩:=h.at_ j t;have c:∀o v,o<3->xs[j*3+o]?=Zo v->(xs++[c0,c1,c2])[j*3+o]?=Zo v:=fun o v N h=>by rw[List.getElem?_append_left om];exact h
  refine⟨s,r,n,⟨c 0 _ om H,c 1 _ om O,c 2 _ om L⟩,?_⟩;rw[List.getElem_append_left t];exact i P
 ·have B:j=d.length:=by simp at I;omega
  subst B;have l:∀o v,o<3->[c0,c1,c2][o]?=Zo v->(xs++[c0,c1,c2])[d.length*3+o]?=Zo v:=fun o v N h=>by rw[List.getElem?_append_right om,A,Nat.add_sub_cancel_left];exact h
  refine⟨c0,c1,c2,⟨l 0 _ om rfl,l 1 _ om rfl,l 2 _ om rfl⟩,?_⟩;have:(d++[k])[d.length]=k:=zS;rw[this];exact i F
theorem qG.row {j:List (K (M+1))} (h:qG S X M w kv j xs) (m:j.length<=maxLen) :
  gU (Ov S X Zn w) w (a8 (Ov S X Zn w) w (M+1)) j kv:=by
 have s:=kw h.own;rcases h.own.2 with ⟨c,l⟩|⟨g,cap,f,c,a,n,A,y,x,p⟩;·exact⟨Zn,0,by rw[c,l],m,fun d=>absurd (List.length_eq_zero_iff.1 l) d⟩
 ·refine⟨Zo ⟨g,0,Zn⟩,cap,c,m,fun _=>⟨g,0,rfl,.inr ⟨a,(s g (by rw[c];rfl)).2,zS⟩,fun i hi=>?_⟩⟩;obtain⟨c0,c1,c2,⟨q,t,r⟩,u⟩:=h.at_ i hi;have e:∀o v,o<3->xs[i*3+o]?=Zo v->w.cell? ⟨g,0+i*3+o,Zn⟩=Zo v:=fun o v z k=>by rw[cell_of_row w g (0+i*3+o) f _ _ n];rw[<- p,List.getElem?_take_of_lt om]at k;simpa using k
  refine⟨c0,c1,c2,e 0 _ om q,e 1 _ om t,e 2 _ om r,u.keep (fun _ _=>rfl) fun b a=>?_⟩;rcases a with a|a;·exact .inl a
  ·exact .inr ⟨a.1,a.2.1,zS⟩
theorem qG.row2 {e:List (K (M+1))} (h:qG S X M w kv e xs) (f:e.length<=maxLen) :
  gU (Ov S X Zn w) w (a8 (Ov S X kv.ownBlock w) w (M+1)) e kv:=by
 have n:=kw h.own;rcases h.own.2 with ⟨a,k⟩|⟨g,cap,d,a,r,l,z,x,u,p⟩;·exact⟨Zn,0,by rw[a,k],f,fun b=>absurd (List.length_eq_zero_iff.1 k) b⟩
 ·refine⟨Zo ⟨g,0,Zn⟩,cap,a,f,fun _=>⟨g,0,rfl,.inr ⟨r,(n g (by rw[a];rfl)).2,zS⟩,fun i hi=>?_⟩⟩;obtain⟨c0,c1,c2,⟨q,s,m⟩,t⟩:=h.at_ i hi;have c:∀o v,o<3->xs[i*3+o]?=Zo v->w.cell? ⟨g,0+i*3+o,Zn⟩=Zo v:=fun o v y j=>by rw[cell_of_row w g (0+i*3+o) d _ _ l];rw[<- p,List.getElem?_take_of_lt om]at j;simpa using j
  exact⟨c0,c1,c2,c 0 _ om q,c 1 _ om s,c 2 _ om m,t⟩
set_option maxRecDepth 100000
set_option maxHeartbeats 16000000
theorem nn(a b:Int)(w:Zw):Calls prog 12 #[Za #[Zi Zk a,Zi Zk b],Za #[Zi Zk a,Zi Zk b]] w fun e d=>e=Zr (.bool true)/\Bw w d:=by have c:Bw w ((w.alloc (Zc #[Zi Zk a,Zi Zk b] 33)).alloc (Zc #[Zi Zk a,Zi Zk b] 33)):=(gF _ _).alloc zS _;have g:(a != a)=false:=zS;have f:(b != b)=false:=zS;go_in;go_wp2;go_ret;exact⟨rfl,c⟩
theorem AP (n:Nat) (S S':Nat->Prop) (p:ByteArray × K n) (c0 c1 c2 y o i:Zv) (w:Zw) (h:a8 S w n p.2 c0 c1 c2) (g:a8 S' w n p.2 y o i) (t:Bd S w) (a:∀ b,S' b->b<w.heap.size) :
  Calls prog 46 #[Za #[Zt p.1,c0,c1,c2],Za #[Zt p.1,y,o,i]] w fun e F=>e=Zr (.bool true)/\Bw w F:=by obtain⟨u,D,l,E,B,m,C,rfl,rfl,rfl⟩:=h.shape;obtain⟨z0,z,q,j,k,A,v,rfl,rfl,rfl⟩:=g.shape;have d:Bw w ((w.alloc (Zc #[Zt p.1,Zi Zk u,Zs D l E,Zs B m C] 70)).alloc (Zc #[Zt p.1,Zi Zk z0,Zs z q j,Zs k A v] 70)):=(gF _ _).alloc zS _;have x:Hid (Calls prog 11 #[Za #[Zi Zk u,Zs D l E,Zs B m C],Za #[Zi Zk z0,Zs z q j,Zs k A v]] _ _):=my n S S' p.2 _ _ _ _ _ _ _ (h.keep (a6 d t) fun _ h=>h) (g.keep (a6 d a) fun _ h=>h) (fun b h=>by have:=t b h;simp;omega) (fun b h=>by have:=a b h;simp;omega);have r:=a7 d;clear h g d;generalize p.1=s at *;go_in;go_wp2_with fail;refine x.out.mono ?_;rintro e w1 ⟨rfl,c⟩;have f:=b4 r.out zE c;clear x r c;go_wp2;go_ret;exact⟨rfl,f⟩
theorem yw (n:Nat) (S S':Nat->Prop) (l:List (ByteArray × K n)) (v N:Zv) (w:Zw) (hl:gM S w n l v) (H:gM S' w n l N)
  (p:Bd S w) (c:∀b,S' b->b<w.heap.size) :
  Calls prog 13 #[v,N] w fun e B=>e=Zr (.bool true)/\Bw w B:=by
 obtain⟨ao,cap,rfl,y,G⟩:=hl;obtain⟨Y,J,rfl,-,r⟩:=H;unfold maxLen at y;have Z:((l.length:Int) != (l.length:Int))=false:=zS;go_in;go_wp2;go_loopw [5] (fun i wr=>∃k:Nat,k<=l.length/\i=Zi Zk k/\Bw w wr) (fun i _=>l.length-(intOf i).toNat);case atStart=>exact⟨0,Nat.zero_le _,rfl,Below.refl _ _⟩
 case round=>
  obtain⟨k,hk,rfl,a⟩:=hrel;by_cases g:k<l.length
  ·obtain⟨b,off,rfl,o,j⟩:=G (by intro h;rw[h]at g;simp at g);obtain⟨D,I,rfl,f,d⟩:=r (by intro h;rw[h]at g;simp at g);obtain⟨W,U,V,Q,M,R,P,-,O⟩:=j k g;obtain⟨T,X,y2,x,A,z,C,-,u⟩:=d k g;have fs:=kC a Q (p b o);have f0:=kC a M (p b o);have f1:=kC a R (p b o);have f2:=kC a P (p b o);have f4:=kC a x (c D f);have f5:=kC a A (c D f);have f6:=kC a z (c D f);have f7:=kC a C (c D f);clear G r j d Q x M R P A z C;have q:=O.keep (a6 a p) (fun _ h=>h);have L:=u.keep (a6 a c) (fun _ h=>h);have s:=a.size;have HC:Hid (∀m:Nat,Calls prog 46 #[Za #[Zt l[k].1,W,U,V],Za #[Zt l[k].1,T,X,y2]] (wr.drewN m) fun e B=>e=Zr (.bool true)/\Bw wr B):=by
    intro m;have F:Bw wr (wr.drewN m):=below_drewN (Below.refl _ _) m;have E:(wr.drewN m).heap.size=wr.heap.size:=zS;refine (AP n S S' l[k] _ _ _ _ _ _ (wr.drewN m) (q.keep (a6 F (fun b t=>Zd (p b t) s)) (fun _ h=>h)) (L.keep (a6 F (fun b t=>Zd (c b t) s)) (fun _ h=>h))
     (fun b t=>by have:=p b t;omega) (fun b t=>by have:=c b t;omega)).mono ?_
    rintro e B ⟨rfl,h⟩;rw[Bw,E]at h;exact⟨rfl,F.trans h⟩
   clear O u q L;go_wp2_with fail;go_region_with (go_at_call 46;refine (HC.out 1).mono ?_;rintro e B ⟨rfl,aa⟩);all_goals go_wp2_with fail
   all_goals
    go_roundw
    case rel=>exact⟨k+1,om,by go_num,b4 a s (by assumption)⟩
    case measure=>simp[intOf];omega
  ·clear G r;go_wp2;go_ret;exact⟨rfl,a⟩
def mY{n:Nat}(p:ByteArray×K n):Nat:=p.1.size+lO n p.2
theorem C5 (n:Nat) (S:Nat->Prop) (p:ByteArray × K n) (c0 c1 c2:Zv) (a:Int) (w:Zw) (k:a8 S w n p.2 c0 c1 c2) (r:Bd S w) (C:p.1.size<=maxLen) (E:0<=a) (F:a<=1048576) :
  Calls prog 26 #[Za #[Zt p.1,c0,c1,c2],Zi Zk a] w fun e B=>e=Zr (Zi Zk (gn (mY p) a))/\Bw w B:=by
 obtain⟨s,y,m,z,v,o,x,rfl,rfl,rfl⟩:=k.shape;have c:Bw w (w.alloc (Zc #[Zt p.1,Zi Zk s,Zs y m z,Zs v o x] 64)):=gF _ _;unfold maxLen at C;have i:Hid (mY p=p.1.size+lO n p.2):=rfl;by_cases u:a-p.1.size<0
 ·have g:Hid (gn (mY p) a = -1):=by show _=_;rw[gn,if_neg (by rw[i.out];omega)]
  go_in;go_wp2;go_ret;exact⟨fO g.out.symm,c⟩
 ·have t:Hid (Calls prog 19 #[Za #[Zi Zk s,Zs y m z,Zs v o x],Zi Zk (a-p.1.size)] _ _):=AR n S p.2 _ _ _ (a-p.1.size) _ (k.keep (a6 c r) fun _ h=>h) (fun b D=>by have:=r b D;simp;omega) om om;have j:=jB (lO n p.2) (a-p.1.size) om;have g:Hid (gn (lO n p.2) (a-p.1.size)=gn (mY p) a):=by show _=_;rw[i.out,<- kX];congr 1;rw[gn,if_pos om]
  clear k;go_in;go_wp2_with fail;refine t.out.mono ?_;rintro e w1 ⟨rfl,f⟩;have d:=b4 c zS f;clear f t c;rw[g.out]at j ⊢;generalize A:gn (mY p) a=q at *;have l:=a7 A;clear A g i;go_wp2;·go_ret;exact⟨fO (by rw[l.out];omega),d⟩
  ·go_ret;exact⟨fO l.out.symm,d⟩
theorem zG (n:Nat) (S:Nat->Prop) (l:List (ByteArray × K n)) (v:Zv) (c:Int) (w:Zw) (V:gM S w n l v) (q:Bd S w) (Y : -1<=c) (T:c<=1048576) :
  Calls prog 5 #[v,Zi Zk c] w fun e W=>e=Zr (Zi Zk (gn (b5 (fun k=>mY k+1) l) c))/\Bw w W:=by
 obtain⟨ao,cap,rfl,x,B⟩:=V;unfold maxLen at x;by_cases L:c-l.length<0;·go_in;go_wp2;go_ret;exact⟨fO (by rw[gn,kE,if_neg om]),Below.refl _ _⟩
 go_in;go_wp2;go_loopw [1,5] (fun a i wr=>∃k:Nat,k<=l.length/\i=Zi Zk k/\a=Zi Zk (gY mY l k c)/\0<=gY mY l k c/\Bw w wr) (fun _ i _=>l.length-(intOf i).toNat);case atStart=>
  have e:gY mY l 0 c=c-l.length:=by simp[gY,gn,b5];omega
  exact⟨0,Nat.zero_le _,rfl,by rw[e],by rw[e];omega,Below.refl _ _⟩
 case round=>
  obtain⟨k,Z,rfl,rfl,r,d⟩:=hrel;have p:=(jB (l.length+b5 mY (l.take k)) c T).2;change gY mY l k c<=1048576 at p;by_cases j:k<l.length
  ·obtain⟨b,off,rfl,o,g⟩:=B (by intro h;rw[h]at j;simp at j);obtain⟨U,Q,O,M,H,N,J,D,I⟩:=g k j;have P:=kC d M (q b o);have f0:=kC d H (q b o);have f1:=kC d N (q b o);have f2:=kC d J (q b o);clear B g M H N J;have u:=I.keep (a6 d q) (fun _ h=>h);have s:=d.size;have F:Hid (gY mY l (k+1) c=gn (mY l[k]) (gY mY l k c)):=pm _ _ _ _ j;have G:Hid (gY mY l (k+1) c = -1->gn (b5 (fun k=>mY k+1) l) c = -1):=by intro y;have:=im mY (l.take (k+1)) (l.drop (k+1));rw[List.take_append_drop]at this;rw[kE];unfold gY gn at y;unfold gn;rw[if_neg];intro R;rw[if_pos om]at y;omega
   clear I;go_wp2_with fail;refine (C5 n S l[k] U Q O _ wr u (fun b X=>Zd (q b X) s) D r p).mono ?_;rintro e w1 ⟨rfl,z⟩;rw[<- F.out];have C:=jB (mY l[k]) (gY mY l k c) p;rw[<- F.out]at C;have f:=d.trans (z.mono s);clear F z P f0 f1 f2 u d;generalize y:gY mY l (k+1) c=m at *;have E:Hid (m = -1->gn (b5 (fun k=>mY k+1) l) c = -1):=G;have A:Hid (gY mY l (k+1) c=m):=y;clear G y;go_wp2;·go_ret;refine⟨fO ?_,f⟩;rw[E.out om]
   ·go_roundw;case rel=>exact⟨k+1,om,by go_num,by rw[A.out],by rw[A.out];omega,f⟩
    case measure=>simp[intOf];omega
  ·have t:k=l.length:=by omega
   have A:Hid (gY mY l k c=gn (b5 (fun k=>mY k+1) l) c):=by show _=_;unfold gY;rw[kE,t,List.take_length]
   clear t B;go_wp2;go_ret;exact⟨fO A.out,d⟩
theorem Tryz.info_lvar:(prog.info? 70).map (fun i=>(i.zero,i.size,i.bytes))=Zo (Zo (Za #[Zt ⟨#[]⟩,Zi Zk 0,Zs Zn 0 0,Zs Zn 0 0]),4,72):=by kernel_rfl
theorem Ag (n:Nat) (d:n<=1048576) (w:Zw):(Instr.makeSlice 36 (Zi Zk (n:Int)) (Zi Zk (n:Int))).run prog w =
  .ok (Zs (Zo ⟨w.heap.size,0,Zn⟩) n n) (w.alloc (Zc (madeCells #[Zt ⟨#[]⟩,Zi Zk 0,Zs Zn 0 0,Zs Zn 0 0] (n*4)) 70)):=by obtain⟨i0,hi,c,a,b⟩:=info_parts Tryz.info_lvar;have:=run_make (P:=prog) w 36 70 i0 _ underlying36 hi c Zk Zk (n:Int) (n:Int) om om (by rw[b];omega) om;rw[a]at this;simpa [Value.cells] using this
theorem Dl (n:Nat) (S:Nat->Prop) (p:ByteArray × K n) (c0 c1 c2:Zv) (w:Zw) (J:a8 S w n p.2 c0 c1 c2) (X:Bd S w) (P:lO n p.2<=1048576) :
  Calls prog 34 #[Za #[Zt p.1,c0,c1,c2]] w fun e H=>∃Q I M,e=Zr (Za #[Zt p.1,Q,I,M])/\a8 (fun b=>w.heap.size<=b/\b<H.heap.size) H n p.2 Q I M/\Bw w H/\jf w.heap.size H:=by
 obtain⟨Y,xa,xl,xc,ya,yl,yc,rfl,rfl,rfl⟩:=J.shape;obtain⟨W,q⟩:=iw (((w.alloc (Zc #[Zt p.1,Zi Zk Y,Zs xa xl xc,Zs ya yl yc] 64)).alloc (Zc #[Zt ⟨#[]⟩,Zi Zk 0,Zs Zn 0 0,Zs Zn 0 0] 70)).alloc (Zc #[Zt p.1,Zi Zk 0,Zs Zn 0 0,Zs Zn 0 0] 70));have o:Bw w W:=by rw[q];exact ((gF _ _).alloc zS _).alloc zE _
 have hz:W.heap.size=w.heap.size+3:=by rw[q];simp
 have D:jf w.heap.size W:=by rw[q];exact ((jf.base w).alloc _ _).alloc _ _ |>.alloc _ _
 have HC:Hid (Calls prog 22 #[Za #[Zi Zk Y,Zs xa xl xc,Zs ya yl yc]] W _):=yV n S p.2 _ _ _ W (J.keep (a6 o X) fun _ h=>h) (fun b T=>by have:=X b T;omega) P;have hA:∀j,j<4->W.cell? ⟨w.heap.size+1,j,Zn⟩=#[Value.string ⟨#[]⟩,Zi Zk 0,Zs Zn 0 0,Zs Zn 0 0][j]?/\W.frozen? ⟨w.heap.size+1,j,Zn⟩=false/\W.cell? ⟨w.heap.size+1+1,j,Zn⟩=#[Zt p.1,Zi Zk 0,Zs Zn 0 0,Zs Zn 0 0][j]?/\W.frozen? ⟨w.heap.size+1+1,j,Zn⟩=false:=fun j hj=>by rw[q];rcases j with _|_|_|_|j<;>first|(refine⟨?_,?_,?_,?_⟩<;>simp[go_sem])|omega
 have V:=a7 hA;have r:=a7 D;have x:=a7 o;have HZ:=a7 hz;clear J o hz D hA;go_in;go_wp2_with fail;rw[<- q];clear q;refine HC.out.mono ?_;rintro e w1 ⟨Q,I,M,rfl,m,i,G⟩;obtain⟨s,u,C,A,B,F,E,rfl,rfl,rfl⟩:=m.shape;have ae:=i.size;have aa:=HZ.out;obtain⟨O,N⟩:=ro i;have k:∀j,j<4->w1.cell? ⟨w.heap.size+1,j,Zn⟩=#[Value.string ⟨#[]⟩,Zi Zk 0,Zs Zn 0 0,Zs Zn 0 0][j]?/\w1.frozen? ⟨w.heap.size+1,j,Zn⟩=false/\w1.cell? ⟨w.heap.size+1+1,j,Zn⟩=#[Zt p.1,Zi Zk 0,Zs Zn 0 0,Zs Zn 0 0][j]?/\w1.frozen? ⟨w.heap.size+1+1,j,Zn⟩=false:=fun j hj=>by obtain⟨a,b,c,d⟩:=V.out j hj;exact⟨(O _ _ om).trans a,(N _ _ om).trans b,(O _ _ om).trans c,(N _ _ om).trans d⟩
 obtain⟨r0,ac,m0,ag⟩:=k 0 om;obtain⟨U,ah,m1,aj⟩:=k 1 om;obtain⟨r2,ad,m2,af⟩:=k 2 om;obtain⟨r3,ab,m3,ai⟩:=k 3 om;simp only[List.getElem?_toArray,List.getElem?_cons_zero,List.getElem?_cons_succ]at r0 m0 U m1 r2 m2 r3 m3;have z:=a7 m;have y:=a7 (b4 x.out om i);have l:jf w.heap.size w1:=r.out.step i G om;obtain⟨Z,f⟩:=iw (ij w1 (w.heap.size+1+1) 1 (Zi Zk s) (Zs u C A) (Zs B F E));obtain⟨t,g⟩:=iw (ij (Z.setCell ⟨w.heap.size+1,0,Zn⟩ (Zt p.1)) (w.heap.size+1) 1 (Zi Zk s) (Zs u C A) (Zs B F E));have HF:Hid (a8 (fun b=>w.heap.size<=b/\b<t.heap.size) t n p.2 (Zi Zk s) (Zs u C A) (Zs B F E)/\Bw w t/\jf w.heap.size t):=by
  refine⟨z.out.keep (fun b T=>?_) (fun b T=>?_),?_,?_⟩;·rw[g,gR om,Below.heap_setCell _ _ _ _ (by show b≠w.heap.size+1;omega),f,gR om]
  ·rw[g,iq];simp;rw[f,iq];omega
  ·rw[g];refine iP (Below.setCell ?_ (by show w.heap.size<=w.heap.size+1;omega) _) om;rw[f];exact iP y.out om
  ·rw[g,f];exact (((((((l.set _ _).set _ _).set _ _).set ⟨w.heap.size+1,0,Zn⟩ (Zt p.1)).set _ _).set _ _).set _ _)
 have L:t=ij (Z.setCell ⟨w.heap.size+1,0,Zn⟩ (Zt p.1)) (w.heap.size+1) 1 (Zi Zk s) (Zs u C A) (Zs B F E):=g;rw[f]at L;have R:=a7 L;clear m i G l k O N V r x HZ HC z y f g L;go_wp2_with fail;refine bodyPost_ret (v:=Za #[Zt p.1,Zi Zk s,Zs u C A,Zs B F E]) (by simp[results,results34,go_sem,r0,U,r2,r3]) rfl ?_;refine⟨_,_,_,rfl,?_⟩;have:=HF.out;rw[R.out]at this;exact this
def zv(w:Zw)(b o:Nat)(g0 g1 g2 g3:Zv):Zw:=
 (((w.setCell ⟨b,o,Zn⟩ g0).setCell ⟨b,o+1,Zn⟩ g1).setCell ⟨b,o+2,Zn⟩ g2).setCell ⟨b,o+3,Zn⟩ g3
def q9(o:Nat)(F:Nat->Zv)(g0 g1 g2 g3:Zv)(j:Nat):Zv:=
 if j=o+3 then g3 else if j=o+2 then g2 else if j=o+1 then g1 else if j=o then g0 else F j
theorem EA{t N:Nat}{F:Nat->Zv}(h:w.rowIs b t N F)(o:Nat)(g0 g1 g2 g3:Zv):(zv w b o g0 g1 g2 g3).rowIs b t N (q9 o F g0 g1 g2 g3):=
 (((h.set o g0).set (o+1) g1).set (o+2) g2).set (o+3) g3
theorem mC(o:Nat)(F:Nat->Zv)(g0 g1 g2 g3:Zv)(j:Nat)(a:j<o∨o+4<=j):q9 o F g0 g1 g2 g3 j=F j:=by unfold q9;rw[if_neg om,if_neg om,if_neg om,if_neg om]
theorem tQ{k:Nat}(h:k≠b):(zv w b o g0 g1 g2 g3).heap[k]?=w.heap[k]?:=by unfold zv;rw[Below.heap_setCell _ _ _ _ h,Below.heap_setCell _ _ _ _ h,Below.heap_setCell _ _ _ _ h,Below.heap_setCell _ _ _ _ h]
theorem vb:(zv w b o g0 g1 g2 g3).heap.size=w.heap.size:=by simp[zv]
theorem ng (n:Nat) (S:Nat->Prop) (l:List (ByteArray × K n)) (v:Zv) (w:Zw) (hl:gM S w n l v) (I:Bd S w) (ab:b5 (fun k=>mY k+1) l<=1048576) :
  Calls prog 8 #[v] w fun e U=>∃a c,e=Zr (Zs a l.length c)/\gM (fun b=>w.heap.size<=b/\b<U.heap.size) U n l (Zs a l.length c)/\Bw w U/\jf w.heap.size U:=by
 obtain⟨ao,cap,rfl,O,W⟩:=hl;have aa:=mw (mY (n:=n)) l;have L:=Ag l.length om;go_in;go_wp2;go_loopw [4] (fun i wr=>∃ (k:Nat) (F:Nat->Zv),k<=l.length/\i=Zi Zk k/\wr.rowIs w.heap.size 70 (l.length*4) F/\(Bw w wr/\jf w.heap.size wr) /\
   ∀j (h:j<l.length),j<k->F (j*4)=Zt l[j].1/\l[j].1.size<=maxLen/\a8 (fun b=>w.heap.size<b/\b<wr.heap.size) wr n l[j].2 (F (j*4+1)) (F (j*4+2)) (F (j*4+3)))
  (fun i _=>l.length-(intOf i).toNat)
 case atStart=>
  obtain⟨F,hF⟩:=lZ w #[Zt ⟨#[]⟩,Zi Zk 0,Zs Zn 0 0,Zs Zn 0 0] (l.length*4) 70;exact⟨0,F,Nat.zero_le _,rfl,hF,⟨gF _ _,fun b o h1 h2=>by
   have:b=w.heap.size:=by simp at h2;omega
   subst this;exact hF.frozen o⟩,fun j _ h=>absurd h (Nat.not_lt_zero _)⟩
 case round=>
  obtain⟨k,F,hk,rfl,f,⟨g,G⟩,m⟩:=hrel;by_cases A:k<l.length
  ·obtain⟨b,off,rfl,u,r⟩:=W (by intro h;rw[h]at A;simp at A);obtain⟨d0,d1,d2,es,e0,e1,e2,Y,hr⟩:=r k A;have fs:=kC g es (I b u);have f0:=kC g e0 (I b u);have f1:=kC g e1 (I b u);have f2:=kC g e2 (I b u);clear W r es e0 e1 e2;have J:=hr.keep (a6 g I) (fun _ h=>h);have q:=g.size;have P:=gX (fun k=>mY k+1) l l[k] (List.getElem_mem A);have M:lO n l[k].2<=1048576:=by have:mY l[k]=l[k].1.size+lO n l[k].2:=rfl;omega
   clear hr L;go_wp2_with fail;refine (Dl n S l[k] d0 d1 d2 wr J (fun b E=>Zd (I b E) q) M).mono ?_;rintro e w1 ⟨g0,g1,g2,rfl,H,p,Q⟩;have D:=G.step p Q q;have ac:=p.size;have N:=f.lt;have d:w1.rowIs w.heap.size 70 (l.length*4) F:=f.of_block (p.block _ N);have q0:=d.cell (i:=k*4) om;have q1:=d.cell (i:=k*4+1) om;have q2:=d.cell (i:=k*4+2) om;have q3:=d.cell (i:=k*4+3) om;have r0:=d.frozen (k*4);have r1:=d.frozen (k*4+1);have r2:=d.frozen (k*4+2);have r3:=d.frozen (k*4+3);obtain⟨s,x,y,C,t,z,B,rfl,rfl,rfl⟩:=H.shape;have HR:Hid (∀ j (h:j<l.length),j<k+1->q9 (k*4) F (Zt l[k].1) (Zi Zk s) (Zs x y C) (Zs t z B) (j*4)=Zt l[j].1/\l[j].1.size<=maxLen/\a8 (fun b=>w.heap.size<b/\b<(zv w1 w.heap.size (k*4) (Zt l[k].1) (Zi Zk s) (Zs x y C) (Zs t z B)).heap.size)
     (zv w1 w.heap.size (k*4) (Zt l[k].1) (Zi Zk s) (Zs x y C) (Zs t z B)) n l[j].2
     (q9 (k*4) F (Zt l[k].1) (Zi Zk s) (Zs x y C) (Zs t z B) (j*4+1)) (q9 (k*4) F (Zt l[k].1) (Zi Zk s) (Zs x y C) (Zs t z B) (j*4+2))
     (q9 (k*4) F (Zt l[k].1) (Zi Zk s) (Zs x y C) (Zs t z B) (j*4+3))):=by
    intro j hj ad
    by_cases R:j<k
    ·rw[mC _ _ _ _ _ _ (j*4) om,mC _ _ _ _ _ _ (j*4+1) om,mC _ _ _ _ _ _ (j*4+2) om,mC _ _ _ _ _ _ (j*4+3) om]
     obtain⟨V,i2,i3⟩:=m j hj R
     refine⟨V,i2,i3.keep (fun b E=>?_) (fun b E=>?_)⟩
     ·rw[tQ om];exact p.block b E.2
     ·rw[vb];omega
    ·have:j=k:=by omega
     subst this
     simp only[q9]
     refine⟨zS,Y,?_⟩
     simp
     refine H.keep (fun b E=>?_) (fun b E=>?_)
     ·rw[tQ om]
     ·rw[vb];omega
   have Z:=EA d (k*4) (Zt l[k].1) (Zi Zk s) (Zs x y C) (Zs t z B);have HB:Bw w (zv w1 w.heap.size (k*4) (Zt l[k].1) (Zi Zk s) (Zs x y C) (Zs t z B)):=((((b4 g q p).setCell (Nat.le_refl _) _).setCell (Nat.le_refl _) _).setCell (Nat.le_refl _) _).setCell (Nat.le_refl _) _;have T:Hid (_/\_/\_/\_):=⟨Z,HB,HR.out,(((D.set ⟨w.heap.size,k*4,Zn⟩ (Zt l[k].1)).set ⟨w.heap.size,k*4+1,Zn⟩ (Zi Zk s)).set ⟨w.heap.size,k*4+2,Zn⟩ (Zs x y C)).set ⟨w.heap.size,k*4+3,Zn⟩ (Zs t z B)⟩;clear G D Q;clear Z HB HR m f g p H d fs f0 f1 f2 J P;go_wp2;go_roundw;case rel=>exact⟨k+1,_,om,by go_num,T.out.1,⟨T.out.2.1,T.out.2.2.2⟩,T.out.2.2.1⟩
   case measure=>simp[intOf];omega
  ·have X:k=l.length:=by omega
   have HF:Hid (gM (fun b=>w.heap.size<=b/\b<wr.heap.size) wr n l (Zs (Zo ⟨w.heap.size,0,Zn⟩) l.length l.length)):=by
    refine⟨_,_,rfl,O,fun _=>⟨w.heap.size,0,rfl,⟨Nat.le_refl _,f.lt⟩,fun i hi=>?_⟩⟩;obtain⟨V,i2,i3⟩:=m i hi om;refine⟨_,_,_,?_,?_,?_,?_,i2,i3.keep (fun _ _=>rfl) (fun b E=>⟨om,E.2⟩)⟩;·rw[<- V];simpa using f.cell (i:=i*4) om
    ·simpa using f.cell (i:=i*4+1) om
    ·simpa using f.cell (i:=i*4+2) om
    ·simpa using f.cell (i:=i*4+3) om
   clear X W f L m;go_wp2;go_ret;exact⟨_,_,rfl,HF.out,g,G⟩
end Go.Proofs.YtcfojmaccikgeaaGreatDoor
