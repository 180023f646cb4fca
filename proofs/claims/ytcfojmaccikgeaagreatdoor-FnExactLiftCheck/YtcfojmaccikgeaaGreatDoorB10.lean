import Derived.Test.YtcfojmaccikgeaaGreatDoorB2
import Derived.Deep.AppendLies
import Derived.Deep.RegionWith
import Derived.Lib.Hide
open Go.Value renaming slice→Zs,int→Zi,string→Zt,tuple→Zu,bool→Zb
open Go.IntKind renaming i64→Zk
open Go.Ending renaming returned→Zr
open Option renaming some→Zo
open Go renaming World→Zw,Value→Zv
open Array renaming getElem?_eq_some_iff→ZF
namespace Go.Proofs.YtcfojmaccikgeaaGreatDoor
open Go.RowKit Go.Proofs.Tryz
variable {α:Type} {S S':ZP} {w w' wr:Zw} {v nv kv:Zv} {e:TypeId} {xs:List Zv} {M z k R X n:Nat} {so:Int} {ns:List ZN}
def lx{α:Type}(S:ZP)(w:Zw)(R:α->Zv->Prop)(l:List α)(v:Zv):Prop:=
 ∃(a:ZO)(cap:Nat),v=Zs a l.length cap/\l.length<=maxLen /\
  (l≠[]->∃b off,a=Zo ⟨b,off,none⟩/\S b/\∀i (h:i<l.length),∃c,w.cell? ⟨b,off+i,none⟩=Zo c/\R l[i] c)
theorem lx.keep {R e:α->Zv->Prop} {l:List α} (h:lx S w R l v) (o:jn S w w') (m:∀ b,S b->S' b)
  (k:∀x c,x∈l->R x c->e x c):lx S' w' e l v:=by obtain⟨g,cap,t,r,q⟩:=h;refine⟨g,cap,t,r,fun d=>?_⟩;obtain⟨b,off,n,f,a⟩:=q d;refine⟨b,off,n,m b f,fun i hi=>?_⟩;obtain⟨c,j,s⟩:=a i hi;exact⟨c,(o.cell (p:=⟨b,off+i,none⟩) f).trans j,k _ _ (List.getElem_mem hi) s⟩
theorem nB {base:Nat} {l:List α} {R:α->Zv->Prop} (h:w.ownsRow base e 1 v l.length xs) (d:l.length<=maxLen)
  (m:∀g,v.ownBlock=Zo g->S g) (k:∀i (hi:i<l.length) (s:i<xs.length),R l[i] xs[i]):lx S w R l v:=by
 have f:xs.length=l.length:=by simpa using h.1
 rcases h.2 with ⟨rfl,c⟩|⟨g,cap,j,rfl,n,r,q,o,p,b⟩;·exact⟨none,0,by rw[c],d,fun a=>absurd (List.eq_nil_of_length_eq_zero c) a⟩
 ·refine⟨_,_,rfl,d,fun _=>⟨g,0,rfl,m g rfl,fun i hi=>⟨xs[i]'om,?_,k i hi om⟩⟩⟩;have:=h.cells (g:=g) rfl i (xs[i]'om) zS;rw[Addr.add_lit]at this;exact this
theorem fU(h:w.ownsRow M e z v k xs)(b:Nat)(d:v.ownBlock=Zo b):M<=b/\b<w.heap.size:=by
 rcases h.2 with ⟨rfl,n⟩|⟨g,cap,f,rfl,a,l,m,i,j,c⟩;·cases d
 ·have:g=b:=by simpa [Value.ownBlock] using d
  subst this;exact⟨a,(ZF.1 l).1⟩
theorem mV(h:w.ownsRow M e z v k xs):∃a c,v=Zs a k c:=by
 rcases h.2 with ⟨rfl,f⟩|⟨g,cap,d,rfl,i,n,m,j,l,b⟩;·exact⟨_,_,by rw[f]⟩
 ·exact⟨_,_,rfl⟩
theorem gh(h:w.ownsRow M e z v k xs)(i:∀g,v.ownBlock=Zo g->w'.heap[g]?=w.heap[g]?):w'.ownsRow M e z v k xs:=by
 obtain⟨c,b⟩:=h;refine⟨c,?_⟩;rcases b with b|⟨g,cap,a,rfl,d,f,r⟩;·exact .inl b
 ·exact .inr ⟨g,cap,a,rfl,d,by rw[i g rfl];exact f,r⟩
def Kn(M:Nat)(c a:Zv)(H b:Nat):Prop:=M<=b/\b<H/\c.ownBlock≠Zo b/\a.ownBlock≠Zo b
structure EU(R X n:Nat)(w wr:Zw)(so:Int)(ns:List ZN)(ks:List (T n))(nv kv:Zv):Prop where
 near:b8 R w wr
 box:wr.heap[X]?=Zo (.cells #[Zi Zk so,Zi Zk 0,Zt ByteArray.empty,nv,kv] 164 (0,0))
 names:wr.ownsRow (X+1) 9 1 nv ns.length (ns.map Zt)
 short:∀s,s∈ns->s.size<=10000
 kids:∃xs,wr.ownsRow (X+1) 164 5 kv ks.length xs/\∀j (h:j<ks.length),∃c0 c1 c2 c3 c4,(xs[j*5]?=Zo c0/\xs[j*5+1]?=Zo c1/\xs[j*5+2]?=Zo c2/\xs[j*5+3]?=Zo c3/\xs[j*5+4]?=Zo c4)/\gE (Kn (X+1) nv kv wr.heap.size) wr n ks[j] c0 c1 c2 c3 c4
 apart:∀b,nv.ownBlock=Zo b->kv.ownBlock≠Zo b
theorem jD(h:w.ownsRow M e z v k xs)(b:Nat)(d:v.ownBlock=Zo b):M<=b/\b<w.heap.size:=by
 rcases h.2 with ⟨rfl,n⟩|⟨g,cap,f,rfl,a,l,m,i,j,c⟩;·cases d
 ·have:g=b:=by simpa [Value.ownBlock] using d
  subst this;exact⟨a,(ZF.1 l).1⟩
theorem qQ(h:w.ownsRow M e z v k xs)(i:∀g,v.ownBlock=Zo g->w'.heap[g]?=w.heap[g]?):w'.ownsRow M e z v k xs:=by
 obtain⟨c,b⟩:=h;refine⟨c,?_⟩;rcases b with b|⟨g,cap,a,rfl,d,f,r⟩;·exact .inl b
 ·exact .inr ⟨g,cap,a,rfl,d,by rw[i g rfl];exact f,r⟩
theorem EU.lt{a:List (T n)}(h:EU R X n w wr so ns a nv kv):X<wr.heap.size:=(ZF.1 h.box).1
theorem EU.keep{W:Zw}{i:List (T n)}(h:EU R X n w wr so ns i nv kv)(l:R<X)(e:b8 R wr W):EU R X n w W so ns i nv kv:=by
 have m:=h.lt;have c:∀b,X<=b->b<wr.heap.size->W.heap[b]?=wr.heap[b]?:=fun b t k=>e.block b k om;obtain⟨s,f,q⟩:=h.kids;refine⟨h.near.trans e,by rw[c X (Nat.le_refl _) m];exact h.box,qQ h.names fun g d=>?_,h.short,⟨s,qQ f fun g d=>?_,fun j p=>?_⟩,h.apart⟩;·have:=jD h.names g d;exact c g om this.2
 ·have:=jD f g d;exact c g om this.2
 ·obtain⟨c0,c1,c2,c3,c4,o,r⟩:=q j p;refine⟨c0,c1,c2,c3,c4,o,r.keep (fun b a=>c b ?_ a.2.1) (fun b a=>⟨a.1,Nat.lt_of_lt_of_le a.2.1 e.size,a.2.2⟩)⟩;have:=a.1;omega
set_option maxRecDepth 100000
set_option maxHeartbeats 16000000
def iM(S:ZP)(w:Zw):(n:Nat)->T n->Zv->Prop
 | 0,_,_=>False
 | n+1,t,v=>
  (Nd.sort t=1/\v=.iface 299 (Zi Zk (Nd.num t)))∨(Nd.sort t=2/\v=.iface 301 (Zt (Nd.text t))) ∨
  (Nd.sort t=3/\v=.iface 302 (Zb (Nd.num t==1))) ∨
  (Nd.sort t=4/\∃a,v=.iface 305 a/\lx S w (iM S w n) (Nd.kids t) a) ∨
  (Nd.sort t=5/\∃b a,v=.iface 308 (.agg #[b,a])/\fL S w (Nd.names t) b/\lx S w (iM S w n) (Nd.kids t) a) ∨
  (Nd.sort t=6/\∃a,v=.iface 310 a/\lx S w (iM S w n) (Nd.kids t) a)
theorem iM.keep(i:jn S w w')(g:∀b,S b->S' b):∀ {n:Nat} {t:T n} {v:Zv},iM S w n t v->iM S' w' n t v:=by
 intro n;induction n with
 | zero=>intro t v h;exact h.elim
 | succ n j=>
  intro t v h;rcases h with h|h|h|⟨c,f,d,a⟩|⟨c,l,f,d,k,a⟩|⟨c,f,d,a⟩;·exact .inl h
  ·exact .inr (.inl h)
  ·exact .inr (.inr (.inl h))
  ·exact .inr (.inr (.inr (.inl ⟨c,f,d,a.keep i g fun _ _ _ e=>j e⟩)))
  ·exact .inr (.inr (.inr (.inr (.inl ⟨c,l,f,d,k.keep i g,a.keep i g fun _ _ _ e=>j e⟩))))
  ·exact .inr (.inr (.inr (.inr (.inr ⟨c,f,d,a.keep i g fun _ _ _ e=>j e⟩))))
theorem iM.iface:∀ {n:Nat} {t:T n} {v:Zv},iM S w n t v->∃u x,v=.iface u x:=by
 intro n;cases n with
 | zero=>intro t v h;exact h.elim
 | succ n=>
  intro t v h;rcases h with h|h|h|⟨c,d,a,b⟩|⟨c,f,d,a,e,b⟩|⟨c,d,a,b⟩;·exact⟨_,_,h.2⟩
  ·exact⟨_,_,h.2⟩
  ·exact⟨_,_,h.2⟩
  ·exact⟨_,_,a⟩
  ·exact⟨_,_,a⟩
  ·exact⟨_,_,a⟩
theorem Tryz.info_at:(prog.info? 278).map (fun i=>(i.zero,i.size,i.bytes))=Zo (Zo .nilIface,1,16):=by kernel_rfl
structure qx(S:ZP)(M n:Nat)(ks:List (T n))(w1:Zw)(k:Nat)(v:Zv)(wr:Zw):Prop where
 below:Below M w1 wr
 row:∃xs:List Zv,wr.ownsRow M 278 1 v k xs/\∀j (h:j<ks.length) (hx:j<xs.length),iM (fun b=>S b∨(M<=b/\b<wr.heap.size/\v.ownBlock≠Zo b)) wr n ks[j] xs[j]
theorem AM {q:List (T n)} {w1 m u:Zw} {g cap:Nat} {box one:Obj} (h:qx S M n q w1 k v wr) (P:k<q.length) (H:∀ b,S b->b<M) (K:M<=wr.heap.size)
  (l:wr.ownsRow M 278 1 v k xs) (B:∀j (h:j<q.length) (I:j<xs.length),iM (fun b=>S b∨(M<=b/\b<wr.heap.size/\v.ownBlock≠Zo b)) wr n q[j] xs[j])
  (d:Below (wr.alloc box).heap.size (wr.alloc box) m) (x:iM (fun b=>S b∨((wr.alloc box).heap.size<=b/\b<m.heap.size)) m n q[k] kv)
  (p:u.ownsRow M 278 1 (Zs (Zo ⟨g,0,none⟩) (k+1) cap) (k+1) (xs++[kv])) (c:(m.alloc one).grownBy u v.ownBlock) (w:v.ownBlock=Zo g∨g=m.heap.size+1) :
  qx S M n q w1 (k+1) (Zs (Zo ⟨g,0,none⟩) (k+1) cap) u:=by
 have C:=d.size;have D:=c.size;simp at D;simp at C;have f:=fU l;have A:xs.length=k:=by simpa using l.1
 have F:∀b,b<m.heap.size->v.ownBlock≠Zo b->u.heap[b]?=m.heap[b]?:=fun b a y=>by rw[c.block b zE (fun e=>y e.symm),Below.heap_alloc _ _ _ a]
 have E:∀b,b<wr.heap.size->v.ownBlock≠Zo b->u.heap[b]?=wr.heap[b]?:=fun b a z=>by rw[F b om z,d.block b zE,Below.heap_alloc _ _ _ a]
 have i:∀b,v.ownBlock≠Zo b->b<m.heap.size->(Value.slice (Zo ⟨g,0,none⟩) (k+1) cap).ownBlock≠Zo b:=by
  intro b J O e;have e:g=b:=by simpa [Value.ownBlock] using e
  rcases w with G|G;·exact J (by rw[G,e])
  ·omega
 refine⟨⟨?_,?_,?_,by have:=h.below.size;omega,fun b a=>?_⟩,xs++[kv],p,fun j L I=>?_⟩;·rw[c.os];exact d.os.trans h.below.os
 ·rw[c.tape];exact d.tape.trans h.below.tape
 ·rw[c.output];exact d.output.trans h.below.output
 ·rw[E b om (fun e=>by have:=f b e;omega)];exact h.below.block b a
 ·by_cases N:j<k
  ·have t:j<xs.length:=by omega
   rw[List.getElem_append_left t];refine (B j L t).keep (fun b a=>?_) (fun b a=>?_)
   ·rcases a with a|⟨r,d,o⟩;·have:=H b a;exact E b om (fun e=>by have:=f b e;omega)
    ·exact E b d o
   ·rcases a with a|⟨r,d,o⟩;·exact .inl a
    ·exact .inr ⟨r,om,i b o om⟩
  ·have s:j=k:=by simp at I;omega
   subst s;have:(xs++[kv])[j]=kv:=by simp[<- A]
   rw[this];refine x.keep (fun b a=>?_) (fun b a=>?_)
   ·rcases a with a|a;·have:=H b a;exact F b om (fun e=>by have:=f b e;omega)
    ·simp at a;exact F b a.2 (fun e=>by have:=f b e;omega)
   ·rcases a with a|a;·exact .inl a
    ·simp at a;exact .inr ⟨om,om,i b (fun e=>by have:=f b e;omega) a.2⟩
def vj(S:ZP)(n:Nat)(t:T n)(w:Zw)(e:Ending)(w':Zw):Prop:=
 Bw w w' /\ ∃v,e=Zr v/\iM (fun b=>S b∨(w.heap.size<=b/\b<w'.heap.size)) w' n t v
def oF(n:Nat):Prop:=∀(S:ZP)(t:T n)(c0 c1 c2 c3 c4:Zv)(d:Int)(w:Zw),gE S w n t c0 c1 c2 c3 c4->(Bd S w)->ie n t d=true->d9 n t<=120 ->
 Calls prog 230 #[.agg #[c0,c1,c2,c3,c4]] w (vj S n t w)
theorem Iu{d:Int}(l:List (T n))(h:l.all (fun x=>ie n x d)=true):l.length<=b4 (fun x=>d9 n x) l:=by
 induction l with
 | nil=>simp
 | cons x r a=>simp only[List.all_cons,Bool.and_eq_true]at h;have b:=Fs n x d h.1;have c:=a h.2;simp only[b4,List.length_cons];omega
theorem uV (n:Nat) (hn:oF n) (S:ZP) (c:List (T n)) (v:Zv) (d:Int) (w:Zw) (R:ik S w (gE S w n) c v) (H:Bd S w) (J:c.all (fun x=>ie n x d)=true) (hc:1+b4 (fun x=>d9 n x) c<=120) :
  Calls prog 246 #[v] w fun e N=>Bw w N/\∃v',e=Zr v' /\ lx (fun b=>S b∨(w.heap.size<=b/\b<N.heap.size)) N (iM (fun b=>S b∨(w.heap.size<=b/\b<N.heap.size)) N n) c v':=by
 obtain⟨ao,cap,rfl,K,f⟩:=R;have ad:c.length<=120:=by have:=Iu c J;omega
 have F:Hid (∀k (h:k<c.length),ie n c[k] d=true/\d9 n c[k]<=120):=by intro k h;refine⟨List.all_eq_true.1 J _ (List.getElem_mem h),?_⟩;have:=gK (fun x=>d9 n x) c _ (List.getElem_mem h);omega
 clear J hc K;obtain⟨i0,hi,y,z,A⟩:=info_parts Tryz.info_at;have O:Hid (_/\_/\_/\_):=⟨hi,y,z,A⟩;clear hi y z A;go_in;go_wp2;go_loopw [3,8] (fun v i wr=>∃k:Nat,k<=c.length/\i=Zi Zk k/\qx S w.heap.size n c w k v wr) (fun _ i _=>c.length-(intOf i).toNat);case atStart=>exact⟨0,Nat.zero_le _,rfl,Below.refl _ _,[],World.ownsRow_nil _ _ _ _,fun j _ Z=>absurd Z (Nat.not_lt_zero _)⟩
 case round=>
  obtain⟨k,hk,rfl,Q⟩:=hrel;obtain⟨xs,r,M⟩:=Q.row;obtain⟨va,vc,rfl⟩:=mV r;have a:=Q.below;have aa:=a.size;have V:=a7 Q;have E:=a7 r;have P:=a7 M;clear Q r M;by_cases m:k<c.length
  ·obtain⟨b,off,rfl,X,p⟩:=f (by intro h;rw[h]at m;simp at m);obtain⟨y0,y1,y2,y3,y4,e0,e1,e2,e3,e4,R⟩:=p k m;have o:=H b X;have f0:=kC a e0 o;have f1:=kC a e1 o;have f2:=kC a e2 o;have f3:=kC a e3 o;have f4:=kC a e4 o;have q:=R.keep (a6 a H) (fun _ h=>h);obtain⟨z0,z1,z2,za,zl,zc,ua,ul,uc,rfl,rfl,rfl,rfl,rfl⟩:=q.shape;clear f p e0 e1 e2 e3 e4 R;have L:=(Below.refl wr.heap.size wr).alloc (Nat.le_refl _) (.cells #[Zi Zk z0,Zi Zk z1,Zt z2,Zs za zl zc,Zs ua ul uc] 164);have q5:=q.keep (a6 L (fun b I=>by have:=H b I;omega)) (fun _ h=>h);have HC:=a7 (hn S c[k] _ _ _ _ _ d _ q5 (fun b I=>by have:=H b I;simp;omega) (F.out k m).1 (F.out k m).2);clear q q5 L;go_wp2_with fail;refine HC.out.mono ?_;rintro e U ⟨t,kv,rfl,C⟩;obtain⟨ku,kx,rfl⟩:=C.iface;have ac:wr.heap.size+1<=U.heap.size:=by have:=t.size;simpa using this
   have G:=a7 (gh E.out (fun g' Y=>by have:=fU E.out g' Y;exact (t.block g' zE).trans (Below.heap_alloc _ _ _ this.2)));have B:Hid (_/\_):=⟨t,C⟩;clear t C f0 f1 f2 f3 f4 HC;go_wp2_with (at_builtin;refine wpList_append_lies _ rfl (.tmp 12) (.tmp 15) 304 rfl w.heap.size 278 i0 .nilIface 1 16 underlying304 O.out.1 O.out.2.1 O.out.2.2.1 O.out.2.2.2 rfl zC (Zs va k vc) k xs rfl (G.out.alloc _) ⟨U.heap.size,0,none⟩ 1 1 [.iface ku kx] rfl rfl (World.news_of_block (heap_alloc_new U _)) (by simp[Value.oneCell']) zC (by unfold maxLen;omega) om zE (U.heap.size+1) zS ?_;intro g cap w3 s l u ab;refine Hid.out ?_);refine Lib.hid ?_;have HF:=a7 (AM V.out m H aa E.out P.out B.out.1 B.out.2 s l u);clear s l u B G E P V;go_wp2;go_roundw;case rel=>exact⟨k+1,om,by go_num,HF.out⟩
   case measure=>simp[intOf];omega
  ·have D:k=c.length:=by omega
   have HP:Hid (Bw w wr/\lx (fun b=>S b∨(w.heap.size<=b/\b<wr.heap.size)) wr (iM (fun b=>S b∨(w.heap.size<=b/\b<wr.heap.size)) wr n) c (Zs va k vc)):=by refine⟨a,?_⟩;have W:=E.out;rw[D]at W ⊢;refine nB W (by unfold maxLen;omega) (fun g J=>.inr (fU W g J)) (fun i hi Z=>?_);have:=P.out i hi Z;rw[D]at this;exact this.keep (fun _ _=>rfl) (fun b I=>I.elim .inl (fun h=>.inr ⟨h.1,h.2.1⟩))
   clear D f E P V;go_wp2;go_ret;exact⟨HP.out.1,_,rfl,HP.out.2⟩
theorem uU(n:Nat)(Y:oF n):oF (n+1):=by
 intro S t c0 c1 c2 c3 c4 d w ht E L X;have Q:∀(v:Zv)(w:Zw),True:=fun _ _=>trivial;clear Q;obtain⟨rfl,rfl,rfl,ac,-,-,u,A⟩:=ht;obtain⟨na,q,rfl,-,-,-⟩:=id u;obtain⟨B,C,rfl,-,-⟩:=id A;simp only[ie,Bool.and_eq_true]at L;have K:gM (Nd.sort t) (Nd.num t) (Nd.text t) (Nd.names t) (Nd.kids t).length=true:=L.1.2;have G:1+b4 (fun x=>d9 n x) (Nd.kids t)<=120:=by simpa only[d9] using X
 have y:Nd.sort t=1∨Nd.sort t=2∨Nd.sort t=3∨Nd.sort t=4∨Nd.sort t=5∨Nd.sort t=6:=by
  unfold gM at K;by_cases R:Nd.sort t=1;·exact .inl R
  by_cases T:Nd.sort t=2;·exact .inr (.inl T)
  by_cases u:Nd.sort t=3;·exact .inr (.inr (.inl u))
  by_cases A:Nd.sort t=4;·exact .inr (.inr (.inr (.inl A)))
  by_cases U:Nd.sort t=5;·exact .inr (.inr (.inr (.inr (.inl U))))
  by_cases V:Nd.sort t=6;·exact .inr (.inr (.inr (.inr (.inr V))))
  rw[if_neg R,if_neg T,if_neg u,if_neg A,if_neg U,if_neg V]at K;cases K
 generalize Z:Nd.sort t=s at *;have z:=a7 Z;clear Z K;have i:=(Below.refl w.heap.size w).alloc (Nat.le_refl _) (.cells #[Zi Zk s,Zi Zk (Nd.num t),Zt (Nd.text t),Zs na (Nd.names t).length q,Zs B (Nd.kids t).length C] 164);have I:=vW.new w (Zi Zk s) (Zi Zk (Nd.num t)) (Zt (Nd.text t)) (Zs na (Nd.names t).length q) (Zs B (Nd.kids t).length C) 164;have M:=u.keep (a6 i E) (fun _ h=>h);have D:=A.keepT (a6 i E) (fun _ h=>h);have o:Hid (∀ W,Below (w.alloc (.cells #[Zi Zk s,Zi Zk (Nd.num t),Zt (Nd.text t),Zs na (Nd.names t).length q,Zs B (Nd.kids t).length C] 164)).heap.size (w.alloc (.cells #[Zi Zk s,Zi Zk (Nd.num t),Zt (Nd.text t),Zs na (Nd.names t).length q,Zs B (Nd.kids t).length C] 164)) W ->
   W.heap.size=w.heap.size+1->Calls prog 246 #[Zs B (Nd.kids t).length C] W fun e m=>∃k r l,e=Zr (Zs k r l)/\Bw w m/\m.cell? ⟨w.heap.size,3,none⟩=Zo (Zs na (Nd.names t).length q) /\
    fL (fun b=>S b∨(w.heap.size<=b/\b<m.heap.size)) m (Nd.names t) (Zs na (Nd.names t).length q)/\lx (fun b=>S b∨(w.heap.size<=b/\b<m.heap.size)) m (iM (fun b=>S b∨(w.heap.size<=b/\b<m.heap.size)) m n) (Nd.kids t) (Zs k r l)):=by
  intro W P aa
  have O:∀b,S b->b<(w.alloc (.cells #[Zi Zk s,Zi Zk (Nd.num t),Zt (Nd.text t),Zs na (Nd.names t).length q,Zs B (Nd.kids t).length C] 164)).heap.size:=fun b g=>by have:=E b g;simp;omega
  have N:=D.keepT (a6 P O) (fun _ h=>h)
  refine (uV n Y S (Nd.kids t) _ (d+1) W N (fun b g=>by have:=E b g;omega) L.2 G).mono ?_
  rintro e m ⟨g,v',rfl,a⟩
  obtain⟨k,l,rfl,-⟩:=id a
  have F:=(b5 i zS P).trans (g.mono om)
  refine⟨_,_,_,rfl,F,(I.keep (P.trans (g.mono zE))).c3,?_,?_⟩
  ·exact u.keep (a6 F E) (fun b g=>.inl g)
  ·exact a.keep (fun _ _=>rfl) (fun b g=>g.elim .inl (fun h=>.inr ⟨om,h.2⟩)) (fun _ _ _ hx=>hx.keep (fun _ _=>rfl) (fun b g=>g.elim .inl (fun h=>.inr ⟨om,h.2⟩)))
 have c:Hid (∀v W,Bw w W->iM (fun b=>S b∨(w.heap.size<=b/\b<W.heap.size)) W (n+1) t v->vj S (n+1) t w (Zr v) W):=fun v W g hv=>⟨g,v,rfl,hv⟩;clear u A M D I Y L X G;rcases y with rfl|rfl|rfl|rfl|rfl|rfl;·clear o;go_in;go_wp2;go_ret;exact c.out _ _ i (.inl ⟨z.out,rfl⟩)
 ·clear o;go_in;go_wp2;go_ret;exact c.out _ _ i (.inr (.inl ⟨z.out,rfl⟩))
 ·clear o;go_in;go_wp2;go_ret;exact c.out _ _ i (.inr (.inr (.inl ⟨z.out,rfl⟩)))
 ·go_in;go_wp2_with fail;refine (o.out _ (Below.refl _ _) zS).mono ?_;rintro e J ⟨k,r,l,rfl,f,-,-,a⟩;have p:=c.out (.iface 305 (Zs k r l)) J f (.inr (.inr (.inr (.inl ⟨z.out,_,rfl,a⟩))));have j:Hid _:=p;clear p a o f;go_wp2;go_ret;exact j.out
 ·go_in;go_wp2_with fail;go_region_with (go_at_call 246;refine (o.out _ ((Below.refl _ _).drew) zS).mono ?_;rintro e J ⟨k,r,l,rfl,f,ab,H,a⟩);all_goals
   have p:=c.out (.iface 308 (.agg #[Zs na (Nd.names t).length q,Zs k r l])) J f (.inr (.inr (.inr (.inr (.inl ⟨z.out,_,_,rfl,H,a⟩)))))
   have j:Hid _:=p
   clear p a f H
   go_wp2
   go_ret
   exact j.out
 ·go_in;go_wp2_with fail;refine (o.out _ (Below.refl _ _) zS).mono ?_;rintro e J ⟨k,r,l,rfl,f,-,-,a⟩;have p:=c.out (.iface 310 (Zs k r l)) J f (.inr (.inr (.inr (.inr (.inr ⟨z.out,_,rfl,a⟩)))));have j:Hid _:=p;clear p a o f;go_wp2;go_ret;exact j.out
theorem xh:∀n,oF n:=by
 intro n;induction n with
 | zero=>intro S t c0 c1 c2 c3 c4 d w a;exact a.elim
 | succ n b=>exact uU n b
def ER(S:ZP)(n:Nat)(t:T n)(w:Zw)(e:Ending)(w':Zw):Prop:=
 Bw w w' /\ ((Cc n t=true/\∃v,e=Zr (Zu #[v,Zb true])/\iM (fun b=>S b∨(w.heap.size<=b/\b<w'.heap.size)) w' n t v)∨(Cc n t=false/\e=Zr (Zu #[.nilIface,Zb false])))
theorem uL (n:Nat) (S:ZP) (t:T n) (c0 c1 c2 c3 c4:Zv) (w:Zw) (q:gE S w n t c0 c1 c2 c3 c4) (E:Bd S w) :
  Calls prog 211 #[.agg #[c0,c1,c2,c3,c4]] w (ER S n t w):=by
 obtain⟨s,u,x,y,A,z,B,D,C,rfl,rfl,rfl,rfl,rfl⟩:=q.shape;have f:=(Below.refl w.heap.size w).alloc (Nat.le_refl _) (.cells #[Zi Zk s,Zi Zk u,Zt x,Zs y A z,Zs B D C] 164);have m:=vW.new w (Zi Zk s) (Zi Zk u) (Zt x) (Zs y A z) (Zs B D C) 164;obtain⟨i,d⟩:=q.step E f;clear q;go_in;go_wp2_with fail;refine (th n S t _ _ _ _ _ _ i d).mono ?_;rintro e w1 ⟨rfl,c⟩;have a:=b5 f zS c;obtain⟨l,j⟩:=i.step d c;obtain⟨K,L,M,k3,k4⟩:=m.keep c;have G:=a.size;clear f c m i d;cases hok:Cc n t with
 | false=>have p:Hid (ER S n t w (Zr (Zu #[.nilIface,Zb false])) w1):=⟨a,.inr ⟨hok,rfl⟩⟩;clear hok;go_wp2;go_ret2;exact p.out
 | true=>
  have o:=a7 hok;simp only[Cc,Bool.and_eq_true,decide_eq_true_eq]at hok;have r:=a7 (xh n S t _ _ _ _ _ 1 w1 l j hok.1 hok.2);clear hok l j;go_wp2_with fail;refine r.out.mono ?_;rintro e J ⟨k,v,rfl,g⟩;obtain⟨H,I,rfl⟩:=id g.iface;have p:Hid (ER S n t w (Zr (Zu #[.iface H I,Zb true])) J):=
   ⟨b5 a a.size k,.inl ⟨o.out,_,rfl,g.keep (fun _ _=>rfl) (fun b F=>F.elim .inl (fun h=>.inr ⟨om,h.2⟩))⟩⟩
  clear k g r;go_wp2;go_ret2;exact p.out
end Go.Proofs.YtcfojmaccikgeaaGreatDoor
