import Derived.Test.YtcfojmaccikgeaaGreatDoorB2
import Derived.Deep.AppendLies
import Derived.Deep.RegionWith
import Derived.Lib.Hide
open Go.Value renaming slice→Zs,int→Zi,string→Zt,tuple→Zu,bool→Zb
open Go.IntKind renaming i64→Zk
open Go.Ending renaming returned→Zr
open Option renaming some→Zo
open Go renaming World→Zw,Value→Zv
open Array renaming getElem?_eq_some_iff→ZF
namespace Go.Proofs.YtcfojmaccikgeaaGreatDoor
open Go.RowKit Go.Proofs.Tryz
variable {α:Type} {S S':Nat->Prop} {w w' wr:Zw} {v nv kv:Zv} {e:TypeId} {xs:List Zv} {M z k R X n:Nat} {so:Int} {ns:List ByteArray}
def lx{α:Type}(S:Nat->Prop)(w:Zw)(R:α->Zv->Prop)(l:List α)(v:Zv):Prop:=
 ∃(a:Option Addr)(cap:Nat),v=Zs a l.length cap/\l.length<=maxLen /\
  (l≠[]->∃b off,a=Zo ⟨b,off,none⟩/\S b/\∀i (h:i<l.length),∃c,w.cell? ⟨b,off+i,none⟩=Zo c/\R l[i] c)
theorem lx.keep {R e:α->Zv->Prop} {l:List α} (h:lx S w R l v) (r:jy S w w') (m:∀ b,S b->S' b)
  (t:∀x c,x∈l->R x c->e x c):lx S' w' e l v:=by obtain⟨q,cap,j,o,k⟩:=h;refine⟨q,cap,j,o,fun d=>?_⟩;obtain⟨b,off,n,f,a⟩:=k d;refine⟨b,off,n,m b f,fun i hi=>?_⟩;obtain⟨c,s,g⟩:=a i hi;exact⟨c,(r.cell (p:=⟨b,off+i,none⟩) f).trans s,t _ _ (List.getElem_mem hi) g⟩
theorem nj {base:Nat} {l:List α} {R:α->Zv->Prop} (h:w.ownsRow base e 1 v l.length xs) (d:l.length<=maxLen)
  (j:∀g,v.ownBlock=Zo g->S g) (q:∀i (hi:i<l.length) (s:i<xs.length),R l[i] xs[i]):lx S w R l v:=by
 have c:xs.length=l.length:=by simpa using h.1
 rcases h.2 with ⟨rfl,f⟩|⟨g,cap,o,rfl,p,r,n,m,k,b⟩;·exact⟨none,0,by rw[f],d,fun a=>absurd (List.eq_nil_of_length_eq_zero f) a⟩
 ·refine⟨_,_,rfl,d,fun _=>⟨g,0,rfl,j g rfl,fun i hi=>⟨xs[i]'om,?_,q i hi om⟩⟩⟩;have:=h.cells (g:=g) rfl i (xs[i]'om) zS;rw[Addr.add_lit]at this;exact this
theorem fR(h:w.ownsRow M e z v k xs)(b:Nat)(d:v.ownBlock=Zo b):M<=b/\b<w.heap.size:=by
 rcases h.2 with ⟨rfl,n⟩|⟨g,cap,j,rfl,c,f,i,m,l,a⟩;·cases d
 ·have:g=b:=by simpa [Value.ownBlock] using d
  subst this;exact⟨c,(ZF.1 f).1⟩
theorem mX(h:w.ownsRow M e z v k xs):∃a c,v=Zs a k c:=by
 rcases h.2 with ⟨rfl,i⟩|⟨g,cap,f,rfl,m,n,d,l,j,b⟩;·exact⟨_,_,by rw[i]⟩
 ·exact⟨_,_,rfl⟩
theorem gg(h:w.ownsRow M e z v k xs)(i:∀g,v.ownBlock=Zo g->w'.heap[g]?=w.heap[g]?):w'.ownsRow M e z v k xs:=by
 obtain⟨c,a⟩:=h;refine⟨c,?_⟩;rcases a with a|⟨g,cap,b,rfl,f,d,r⟩;·exact .inl a
 ·exact .inr ⟨g,cap,b,rfl,f,by rw[i g rfl];exact d,r⟩
def JK(M:Nat)(a c:Zv)(H b:Nat):Prop:=M<=b/\b<H/\a.ownBlock≠Zo b/\c.ownBlock≠Zo b
structure ER(R X n:Nat)(w wr:Zw)(so:Int)(ns:List ByteArray)(ks:List (T n))(nv kv:Zv):Prop where
 near:b7 R w wr
 box:wr.heap[X]?=Zo (.cells #[Zi Zk so,Zi Zk 0,Zt ByteArray.empty,nv,kv] 164 (0,0))
 names:wr.ownsRow (X+1) 9 1 nv ns.length (ns.map Zt)
 short:∀s,s∈ns->s.size<=10000
 kids:∃xs,wr.ownsRow (X+1) 164 5 kv ks.length xs/\∀j (h:j<ks.length),∃c0 c1 c2 c3 c4,(xs[j*5]?=Zo c0/\xs[j*5+1]?=Zo c1/\xs[j*5+2]?=Zo c2/\xs[j*5+3]?=Zo c3/\xs[j*5+4]?=Zo c4)/\gJ (JK (X+1) nv kv wr.heap.size) wr n ks[j] c0 c1 c2 c3 c4
 apart:∀b,nv.ownBlock=Zo b->kv.ownBlock≠Zo b
theorem kw(h:w.ownsRow M e z v k xs)(b:Nat)(d:v.ownBlock=Zo b):M<=b/\b<w.heap.size:=by
 rcases h.2 with ⟨rfl,n⟩|⟨g,cap,j,rfl,c,f,i,m,l,a⟩;·cases d
 ·have:g=b:=by simpa [Value.ownBlock] using d
  subst this;exact⟨c,(ZF.1 f).1⟩
theorem qt(h:w.ownsRow M e z v k xs)(i:∀g,v.ownBlock=Zo g->w'.heap[g]?=w.heap[g]?):w'.ownsRow M e z v k xs:=by
 obtain⟨c,a⟩:=h;refine⟨c,?_⟩;rcases a with a|⟨g,cap,b,rfl,f,d,r⟩;·exact .inl a
 ·exact .inr ⟨g,cap,b,rfl,f,by rw[i g rfl];exact d,r⟩
theorem ER.lt{a:List (T n)}(h:ER R X n w wr so ns a nv kv):X<wr.heap.size:=(ZF.1 h.box).1
theorem ER.keep{W:Zw}{i:List (T n)}(h:ER R X n w wr so ns i nv kv)(r:R<X)(e:b7 R wr W):ER R X n w W so ns i nv kv:=by
 have q:=h.lt;have c:∀b,X<=b->b<wr.heap.size->W.heap[b]?=wr.heap[b]?:=fun b t k=>e.block b k om;obtain⟨s,f,o⟩:=h.kids;refine⟨h.near.trans e,by rw[c X (Nat.le_refl _) q];exact h.box,qt h.names fun g d=>?_,h.short,⟨s,qt f fun g d=>?_,fun j l=>?_⟩,h.apart⟩;·have:=kw h.names g d;exact c g om this.2
 ·have:=kw f g d;exact c g om this.2
 ·obtain⟨c0,c1,c2,c3,c4,m,p⟩:=o j l;refine⟨c0,c1,c2,c3,c4,m,p.keep (fun b a=>c b ?_ a.2.1) (fun b a=>⟨a.1,Nat.lt_of_lt_of_le a.2.1 e.size,a.2.2⟩)⟩;have:=a.1;omega
set_option maxRecDepth 100000
set_option maxHeartbeats 16000000
def iG(S:Nat->Prop)(w:Zw):(n:Nat)->T n->Zv->Prop
 | 0,_,_=>False
 | n+1,t,v=>
  (Nd.sort t=1/\v=.iface 299 (Zi Zk (Nd.num t)))∨(Nd.sort t=2/\v=.iface 301 (Zt (Nd.text t))) ∨
  (Nd.sort t=3/\v=.iface 302 (Zb (Nd.num t==1))) ∨
  (Nd.sort t=4/\∃a,v=.iface 305 a/\lx S w (iG S w n) (Nd.kids t) a) ∨
  (Nd.sort t=5/\∃b a,v=.iface 308 (.agg #[b,a])/\fL S w (Nd.names t) b/\lx S w (iG S w n) (Nd.kids t) a) ∨
  (Nd.sort t=6/\∃a,v=.iface 310 a/\lx S w (iG S w n) (Nd.kids t) a)
theorem iG.keep(i:jy S w w')(g:∀b,S b->S' b):∀ {n:Nat} {t:T n} {v:Zv},iG S w n t v->iG S' w' n t v:=by
 intro n;induction n with
 | zero=>intro t v h;exact h.elim
 | succ n j=>
  intro t v h;rcases h with h|h|h|⟨f,d,a,c⟩|⟨f,k,d,a,l,c⟩|⟨f,d,a,c⟩;·exact .inl h
  ·exact .inr (.inl h)
  ·exact .inr (.inr (.inl h))
  ·exact .inr (.inr (.inr (.inl ⟨f,d,a,c.keep i g fun _ _ _ e=>j e⟩)))
  ·exact .inr (.inr (.inr (.inr (.inl ⟨f,k,d,a,l.keep i g,c.keep i g fun _ _ _ e=>j e⟩))))
  ·exact .inr (.inr (.inr (.inr (.inr ⟨f,d,a,c.keep i g fun _ _ _ e=>j e⟩))))
theorem iG.iface:∀ {n:Nat} {t:T n} {v:Zv},iG S w n t v->∃u x,v=.iface u x:=by
 intro n;cases n with
 | zero=>intro t v h;exact h.elim
 | succ n=>
  intro t v h;rcases h with h|h|h|⟨b,d,a,c⟩|⟨b,e,d,a,f,c⟩|⟨b,d,a,c⟩;·exact⟨_,_,h.2⟩
  ·exact⟨_,_,h.2⟩
  ·exact⟨_,_,h.2⟩
  ·exact⟨_,_,a⟩
  ·exact⟨_,_,a⟩
  ·exact⟨_,_,a⟩
theorem Tryz.info_at:(prog.info? 278).map (fun i=>(i.zero,i.size,i.bytes))=Zo (Zo .nilIface,1,16):=by kernel_rfl
structure oo(S:Nat->Prop)(M n:Nat)(ks:List (T n))(w1:Zw)(k:Nat)(v:Zv)(wr:Zw):Prop where
 below:Below M w1 wr
 row:∃xs:List Zv,wr.ownsRow M 278 1 v k xs/\∀j (h:j<ks.length) (hx:j<xs.length),iG (fun b=>S b∨(M<=b/\b<wr.heap.size/\v.ownBlock≠Zo b)) wr n ks[j] xs[j]
theorem Ar {p:List (T n)} {w1 w2 r:Zw} {g cap:Nat} {box one:Obj} (h:oo S M n p w1 k v wr) (O:k<p.length) (F:∀ b,S b->b<M) (J:M<=wr.heap.size)
  (i:wr.ownsRow M 278 1 v k xs) (D:∀j (h:j<p.length) (G:j<xs.length),iG (fun b=>S b∨(M<=b/\b<wr.heap.size/\v.ownBlock≠Zo b)) wr n p[j] xs[j])
  (d:Below (wr.alloc box).heap.size (wr.alloc box) w2) (C:iG (fun b=>S b∨((wr.alloc box).heap.size<=b/\b<w2.heap.size)) w2 n p[k] kv)
  (m:r.ownsRow M 278 1 (Zs (Zo ⟨g,0,none⟩) (k+1) cap) (k+1) (xs++[kv])) (c:(w2.alloc one).grownBy r v.ownBlock) (u:v.ownBlock=Zo g∨g=w2.heap.size+1) :
  oo S M n p w1 (k+1) (Zs (Zo ⟨g,0,none⟩) (k+1) cap) r:=by
 have z:=d.size;have E:=c.size;simp at E;simp at z;have f:∀b,v.ownBlock=Zo b->M<=b/\b<wr.heap.size:=fR i;have B:xs.length=k:=by simpa using i.1
 have y:∀b,b<w2.heap.size->v.ownBlock≠Zo b->r.heap[b]?=w2.heap[b]?:=fun b a w=>by rw[c.block b zE (fun e=>w e.symm),Below.heap_alloc _ _ _ a]
 have A:∀b,b<wr.heap.size->v.ownBlock≠Zo b->r.heap[b]?=wr.heap[b]?:=fun b a x=>by rw[y b om x,d.block b zE,Below.heap_alloc _ _ _ a]
 have l:∀b,v.ownBlock≠Zo b->b<w2.heap.size->(Value.slice (Zo ⟨g,0,none⟩) (k+1) cap).ownBlock≠Zo b:=by
  intro b K N e;have e:g=b:=by simpa [Value.ownBlock] using e
  rcases u with H|H;·exact K (by rw[H,e])
  ·omega
 refine⟨⟨?_,?_,?_,by have:=h.below.size;omega,fun b a=>?_⟩,xs++[kv],m,fun j I G=>?_⟩;·rw[c.os];exact d.os.trans h.below.os
 ·rw[c.tape];exact d.tape.trans h.below.tape
 ·rw[c.output];exact d.output.trans h.below.output
 ·rw[A b om (fun e=>by have:=f b e;omega)];exact h.below.block b a
 ·by_cases L:j<k
  ·have q:j<xs.length:=by omega
   rw[List.getElem_append_left q];refine (D j I q).keep (fun b a=>?_) (fun b a=>?_)
   ·rcases a with a|⟨t,d,o⟩;·have:=F b a;exact A b om (fun e=>by have:=f b e;omega)
    ·exact A b d o
   ·rcases a with a|⟨t,d,o⟩;·exact .inl a
    ·exact .inr ⟨t,om,l b o om⟩
  ·have s:j=k:=by simp at G;omega
   subst s;have:(xs++[kv])[j]=kv:=by simp[<- B]
   rw[this];refine C.keep (fun b a=>?_) (fun b a=>?_)
   ·rcases a with a|a;·have:=F b a;exact y b om (fun e=>by have:=f b e;omega)
    ·simp at a;exact y b a.2 (fun e=>by have:=f b e;omega)
   ·rcases a with a|a;·exact .inl a
    ·simp at a;exact .inr ⟨om,om,l b (fun e=>by have:=f b e;omega) a.2⟩
def vy(S:Nat->Prop)(n:Nat)(t:T n)(w:Zw)(e:Ending)(w':Zw):Prop:=
 Bw w w' /\ ∃v,e=Zr v/\iG (fun b=>S b∨(w.heap.size<=b/\b<w'.heap.size)) w' n t v
def ox(n:Nat):Prop:=∀(S:Nat->Prop)(t:T n)(c0 c1 c2 c3 c4:Zv)(d:Int)(w:Zw),gJ S w n t c0 c1 c2 c3 c4->(Bd S w)->ia n t d=true->fJ n t<=120 ->
 Calls prog 230 #[.agg #[c0,c1,c2,c3,c4]] w (vy S n t w)
theorem Hp{d:Int}(l:List (T n))(h:l.all (fun x=>ia n x d)=true):l.length<=b5 (fun x=>fJ n x) l:=by
 induction l with
 | nil=>simp
 | cons x r a=>simp only[List.all_cons,Bool.and_eq_true]at h;have c:=FK n x d h.1;have b:=a h.2;simp only[b5,List.length_cons];omega
theorem uG (n:Nat) (hn:ox n) (S:Nat->Prop) (c:List (T n)) (v:Zv) (d:Int) (w:Zw) (Q:ig S w (gJ S w n) c v) (G:Bd S w) (I:c.all (fun x=>ia n x d)=true) (hc:1+b5 (fun x=>fJ n x) c<=120) :
  Calls prog 246 #[v] w fun e M=>Bw w M/\∃v',e=Zr v' /\ lx (fun b=>S b∨(w.heap.size<=b/\b<M.heap.size)) M (iG (fun b=>S b∨(w.heap.size<=b/\b<M.heap.size)) M n) c v':=by
 obtain⟨ao,cap,rfl,L,f⟩:=Q;have ad:c.length<=120:=by have:=Hp c I;omega
 have J:Hid (∀k (h:k<c.length),ia n c[k] d=true/\fJ n c[k]<=120):=by intro k h;refine⟨List.all_eq_true.1 I _ (List.getElem_mem h),?_⟩;have:=gX (fun x=>fJ n x) c _ (List.getElem_mem h);omega
 clear I hc L;obtain⟨i0,hi,A,y,z⟩:=info_parts Tryz.info_at;have R:Hid (_/\_/\_/\_):=⟨hi,A,y,z⟩;clear hi A y z;go_in;go_wp2;go_loopw [3,8] (fun v i wr=>∃k:Nat,k<=c.length/\i=Zi Zk k/\oo S w.heap.size n c w k v wr) (fun _ i _=>c.length-(intOf i).toNat);case atStart=>exact⟨0,Nat.zero_le _,rfl,Below.refl _ _,[],World.ownsRow_nil _ _ _ _,fun j _ V=>absurd V (Nat.not_lt_zero _)⟩
 case round=>
  obtain⟨k,hk,rfl,U⟩:=hrel;obtain⟨xs,p,K⟩:=U.row;obtain⟨va,X,rfl⟩:=mX p;have a:=U.below;have aa:=a.size;have HL:=a7 U;have E:=a7 p;have P:=a7 K;clear U p K;by_cases m:k<c.length
  ·obtain⟨b,off,rfl,Y,s⟩:=f (by intro h;rw[h]at m;simp at m);obtain⟨y0,y1,y2,y3,y4,e0,e1,e2,e3,e4,Q⟩:=s k m;have o:=G b Y;have f0:=kC a e0 o;have f1:=kC a e1 o;have f2:=kC a e2 o;have f3:=kC a e3 o;have f4:=kC a e4 o;have q:=Q.keep (a6 a G) (fun _ h=>h);obtain⟨z0,z1,z2,za,zl,zc,ua,ul,uc,rfl,rfl,rfl,rfl,rfl⟩:=q.shape;clear f s e0 e1 e2 e3 e4 Q;have F:=(Below.refl wr.heap.size wr).alloc (Nat.le_refl _) (.cells #[Zi Zk z0,Zi Zk z1,Zt z2,Zs za zl zc,Zs ua ul uc] 164);have q5:=q.keep (a6 F (fun b O=>by have:=G b O;omega)) (fun _ h=>h);have HC:Hid (Calls prog 230 _ _ _):=hn S c[k] _ _ _ _ _ d _ q5 (fun b O=>by have:=G b O;simp;omega) (J.out k m).1 (J.out k m).2;clear q q5 F;go_wp2_with fail;refine HC.out.mono ?_;rintro e H ⟨t,kv,rfl,C⟩;obtain⟨ku,kx,rfl⟩:=C.iface;have ab:wr.heap.size+1<=H.heap.size:=by have:=t.size;simpa using this
   have N:Hid (H.ownsRow w.heap.size 278 1 (Zs va k X) k xs):=gg E.out (fun g' W=>by have:=fR E.out g' W;exact (t.block g' zE).trans (Below.heap_alloc _ _ _ this.2));have D:Hid (_/\_):=⟨t,C⟩;clear t C f0 f1 f2 f3 f4 HC;go_wp2_with (at_builtin;refine wpList_append_lies _ rfl (.tmp 12) (.tmp 15) 304 rfl w.heap.size 278 i0 .nilIface 1 16 underlying304 R.out.1 R.out.2.1 R.out.2.2.1 R.out.2.2.2 rfl zC (Zs va k X) k xs rfl (N.out.alloc _) ⟨H.heap.size,0,none⟩ 1 1 [.iface ku kx] rfl rfl (World.news_of_block (heap_alloc_new H _)) (by simp[Value.oneCell']) zC (by unfold maxLen;omega) om zE (H.heap.size+1) zS ?_;intro g cap w3 r l u ac;refine Hid.out ?_);refine Lib.hid ?_;have HF:Hid (oo S w.heap.size n c w (k+1) (Zs (Zo ⟨g,0,none⟩) (k+1) cap) w3):=Ar HL.out m G aa E.out P.out D.out.1 D.out.2 r l u;clear r l u D N E P HL;go_wp2;go_roundw;case rel=>exact⟨k+1,om,by go_num,HF.out⟩
   case measure=>simp[intOf];omega
  ·have B:k=c.length:=by omega
   have HP:Hid (Bw w wr/\lx (fun b=>S b∨(w.heap.size<=b/\b<wr.heap.size)) wr (iG (fun b=>S b∨(w.heap.size<=b/\b<wr.heap.size)) wr n) c (Zs va k X)):=by refine⟨a,?_⟩;have Z:=E.out;rw[B]at Z ⊢;refine nj Z (by unfold maxLen;omega) (fun g I=>.inr (fR Z g I)) (fun i hi V=>?_);have:=P.out i hi V;rw[B]at this;exact this.keep (fun _ _=>rfl) (fun b O=>O.elim .inl (fun h=>.inr ⟨h.1,h.2.1⟩))
   clear B f E P HL;go_wp2;go_ret;exact⟨HP.out.1,_,rfl,HP.out.2⟩
theorem uw(n:Nat)(T:ox n):ox (n+1):=by
 intro S t c0 c1 c2 c3 c4 d w ht E L U;have O:∀(v:Zv)(w:Zw),True:=fun _ _=>trivial;clear O;obtain⟨rfl,rfl,rfl,ac,-,-,u,C⟩:=ht;obtain⟨na,o,rfl,-,-,-⟩:=id u;obtain⟨A,B,rfl,-,-⟩:=id C;simp only[ia,Bool.and_eq_true]at L;have K:gS (Nd.sort t) (Nd.num t) (Nd.text t) (Nd.names t) (Nd.kids t).length=true:=L.1.2;have G:1+b5 (fun x=>fJ n x) (Nd.kids t)<=120:=by simpa only[fJ] using U
 have y:Nd.sort t=1∨Nd.sort t=2∨Nd.sort t=3∨Nd.sort t=4∨Nd.sort t=5∨Nd.sort t=6:=by
  unfold gS at K;by_cases Y:Nd.sort t=1;·exact .inl Y
  by_cases X:Nd.sort t=2;·exact .inr (.inl X)
  by_cases u:Nd.sort t=3;·exact .inr (.inr (.inl u))
  by_cases C:Nd.sort t=4;·exact .inr (.inr (.inr (.inl C)))
  by_cases R:Nd.sort t=5;·exact .inr (.inr (.inr (.inr (.inl R))))
  by_cases V:Nd.sort t=6;·exact .inr (.inr (.inr (.inr (.inr V))))
  rw[if_neg Y,if_neg X,if_neg u,if_neg C,if_neg R,if_neg V]at K;cases K
 generalize Z:Nd.sort t=s at *;have z:Hid (Nd.sort t=s):=Z;clear Z K;have i:=(Below.refl w.heap.size w).alloc (Nat.le_refl _) (.cells #[Zi Zk s,Zi Zk (Nd.num t),Zt (Nd.text t),Zs na (Nd.names t).length o,Zs A (Nd.kids t).length B] 164);have J:=vT.new w (Zi Zk s) (Zi Zk (Nd.num t)) (Zt (Nd.text t)) (Zs na (Nd.names t).length o) (Zs A (Nd.kids t).length B) 164;have P:=u.keep (a6 i E) (fun _ h=>h);have H:=C.keepT (a6 i E) (fun _ h=>h);have q:Hid (∀ W,Below (w.alloc (.cells #[Zi Zk s,Zi Zk (Nd.num t),Zt (Nd.text t),Zs na (Nd.names t).length o,Zs A (Nd.kids t).length B] 164)).heap.size (w.alloc (.cells #[Zi Zk s,Zi Zk (Nd.num t),Zt (Nd.text t),Zs na (Nd.names t).length o,Zs A (Nd.kids t).length B] 164)) W ->
   W.heap.size=w.heap.size+1->Calls prog 246 #[Zs A (Nd.kids t).length B] W fun e k=>∃m p l,e=Zr (Zs m p l)/\Bw w k/\k.cell? ⟨w.heap.size,3,none⟩=Zo (Zs na (Nd.names t).length o) /\
    fL (fun b=>S b∨(w.heap.size<=b/\b<k.heap.size)) k (Nd.names t) (Zs na (Nd.names t).length o)/\lx (fun b=>S b∨(w.heap.size<=b/\b<k.heap.size)) k (iG (fun b=>S b∨(w.heap.size<=b/\b<k.heap.size)) k n) (Nd.kids t) (Zs m p l)):=by
  intro W N ab
  have Q:∀b,S b->b<(w.alloc (.cells #[Zi Zk s,Zi Zk (Nd.num t),Zt (Nd.text t),Zs na (Nd.names t).length o,Zs A (Nd.kids t).length B] 164)).heap.size:=fun b g=>by have:=E b g;simp;omega
  have M:=H.keepT (a6 N Q) (fun _ h=>h)
  refine (uG n T S (Nd.kids t) _ (d+1) W M (fun b g=>by have:=E b g;omega) L.2 G).mono ?_
  rintro e k ⟨g,v',rfl,a⟩
  obtain⟨m,l,rfl,-⟩:=id a
  have I:Bw w k:=(b4 i zS N).trans (g.mono om)
  refine⟨_,_,_,rfl,I,(J.keep (N.trans (g.mono zE))).c3,?_,?_⟩
  ·exact u.keep (a6 I E) (fun b g=>.inl g)
  ·exact a.keep (fun _ _=>rfl) (fun b g=>g.elim .inl (fun h=>.inr ⟨om,h.2⟩)) (fun _ _ _ hx=>hx.keep (fun _ _=>rfl) (fun b g=>g.elim .inl (fun h=>.inr ⟨om,h.2⟩)))
 have c:Hid (∀v W,Bw w W->iG (fun b=>S b∨(w.heap.size<=b/\b<W.heap.size)) W (n+1) t v->vy S (n+1) t w (Zr v) W):=fun v W g hv=>⟨g,v,rfl,hv⟩;clear u C P H J T L U G;rcases y with rfl|rfl|rfl|rfl|rfl|rfl;·clear q;go_in;go_wp2;go_ret;exact c.out _ _ i (.inl ⟨z.out,rfl⟩)
 ·clear q;go_in;go_wp2;go_ret;exact c.out _ _ i (.inr (.inl ⟨z.out,rfl⟩))
 ·clear q;go_in;go_wp2;go_ret;exact c.out _ _ i (.inr (.inr (.inl ⟨z.out,rfl⟩)))
 ·go_in;go_wp2_with fail;refine (q.out _ (Below.refl _ _) zS).mono ?_;rintro e F ⟨m,p,l,rfl,f,-,-,a⟩;have r:=c.out (.iface 305 (Zs m p l)) F f (.inr (.inr (.inr (.inl ⟨z.out,_,rfl,a⟩))));have j:Hid _:=r;clear r a q f;go_wp2;go_ret;exact j.out
 ·go_in;go_wp2_with fail;go_region_with (go_at_call 246;refine (q.out _ ((Below.refl _ _).drew) zS).mono ?_;rintro e F ⟨m,p,l,rfl,f,aa,D,a⟩);all_goals
   have r:=c.out (.iface 308 (.agg #[Zs na (Nd.names t).length o,Zs m p l])) F f (.inr (.inr (.inr (.inr (.inl ⟨z.out,_,_,rfl,D,a⟩)))))
   have j:Hid _:=r
   clear r a f D
   go_wp2
   go_ret
   exact j.out
 ·go_in;go_wp2_with fail;refine (q.out _ (Below.refl _ _) zS).mono ?_;rintro e F ⟨m,p,l,rfl,f,-,-,a⟩;have r:=c.out (.iface 310 (Zs m p l)) F f (.inr (.inr (.inr (.inr (.inr ⟨z.out,_,rfl,a⟩)))));have j:Hid _:=r;clear r a q f;go_wp2;go_ret;exact j.out
theorem vX:∀n,ox n:=by
 intro n;induction n with
 | zero=>intro S t c0 c1 c2 c3 c4 d w a;exact a.elim
 | succ n b=>exact uw n b
def Gb(S:Nat->Prop)(n:Nat)(t:T n)(w:Zw)(e:Ending)(w':Zw):Prop:=
 Bw w w' /\ ((Be n t=true/\∃v,e=Zr (Zu #[v,Zb true])/\iG (fun b=>S b∨(w.heap.size<=b/\b<w'.heap.size)) w' n t v)∨(Be n t=false/\e=Zr (Zu #[.nilIface,Zb false])))
theorem uf (n:Nat) (S:Nat->Prop) (t:T n) (c0 c1 c2 c3 c4:Zv) (w:Zw) (o:gJ S w n t c0 c1 c2 c3 c4) (F:Bd S w) :
  Calls prog 211 #[.agg #[c0,c1,c2,c3,c4]] w (Gb S n t w):=by
 obtain⟨y,r,u,C,s,D,A,x,B,rfl,rfl,rfl,rfl,rfl⟩:=o.shape;have i:=(Below.refl w.heap.size w).alloc (Nat.le_refl _) (.cells #[Zi Zk y,Zi Zk r,Zt u,Zs C s D,Zs A x B] 164);have l:=vT.new w (Zi Zk y) (Zi Zk r) (Zt u) (Zs C s D) (Zs A x B) 164;obtain⟨d,f⟩:=o.step F i;clear o;go_in;go_wp2_with fail;refine (si n S t _ _ _ _ _ _ d f).mono ?_;rintro e w1 ⟨rfl,c⟩;have a:=b4 i zS c;obtain⟨m,k⟩:=d.step f c;obtain⟨M,L,K,k3,k4⟩:=l.keep c;have E:=a.size;clear i c l d f;cases hok:Be n t with
 | false=>have q:Hid (Gb S n t w (Zr (Zu #[.nilIface,Zb false])) w1):=⟨a,.inr ⟨hok,rfl⟩⟩;clear hok;go_wp2;go_ret2;exact q.out
 | true=>
  have p:Hid (Be n t=true):=hok;simp only[Be,Bool.and_eq_true,decide_eq_true_eq]at hok;have z:Hid (Calls prog 230 _ _ _):=vX n S t _ _ _ _ _ 1 w1 m k hok.1 hok.2;clear hok m k;go_wp2_with fail;refine z.out.mono ?_;rintro e G ⟨j,v,rfl,g⟩;obtain⟨H,I,rfl⟩:=id g.iface;have q:Hid (Gb S n t w (Zr (Zu #[.iface H I,Zb true])) G):=
   ⟨b4 a a.size j,.inl ⟨p.out,_,rfl,g.keep (fun _ _=>rfl) (fun b J=>J.elim .inl (fun h=>.inr ⟨om,h.2⟩))⟩⟩
  clear j g z;go_wp2;go_ret2;exact q.out
end Go.Proofs.YtcfojmaccikgeaaGreatDoor
