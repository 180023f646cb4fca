import Derived.Test.YtcfojmaccikgeaaGreatDoorB8
import Derived.Test.YtcfojmaccikgeaaGreatDoorB18
import Derived.Handy
import Derived.Test.YtcfojmaccikgeaaGreatDoorB11
import Derived.Deep.Cut
open Go.Value renaming slice→Zs,int→Zi,string→Zt,pointer→Zp
open Go.IntKind renaming i64→Zk
open Go.Obj renaming cells→Zc
open Option renaming none→Zn,some→Zo
open Go renaming World→Zw,Value→Zv
open List renaming getElem_mem→Zg,length_append→Zx
open Array renaming getElem?_eq_some_iff→ZF
namespace Go.Proofs.YtcfojmaccikgeaaGreatDoor
open Go.RowKit Go.Proofs.Tryz
variable {S P Q:ZP} {w w' W W1 W2 w1 wr:Zw} {n X M g cap k m:Nat} {v kv c0 c1 c2 nv:Zv} {xs:List Zv} {one:Obj} {e:TypeId} {s:ZN}
def jf(S:ZP)(w:Zw)(n:Nat)(l:List (ZN×K n))(v:Zv):Prop:=
 ∃(a:ZO)(cap:Nat),v=Zs a l.length cap/\l.length<=maxLen /\
  (l≠[]->∃b off,a=Zo ⟨b,off,Zn⟩/\S b/\∀i (h:i<l.length),∃c0 c1 c2,w.cell? ⟨b,off+i*4,Zn⟩=Zo (Zt l[i].1)/\w.cell? ⟨b,off+i*4+1,Zn⟩=Zo c0 /\
   w.cell? ⟨b,off+i*4+2,Zn⟩=Zo c1/\w.cell? ⟨b,off+i*4+3,Zn⟩=Zo c2/\l[i].1.size<=maxLen/\a8 S w n l[i].2 c0 c1 c2)
theorem jf.keep{S':ZP}{l:List (ZN×K n)}(h:jf S w n l v)(d:jn S w w')(f:∀b,S b->S' b):jf S' w' n l v:=by
 obtain⟨g,cap,x,t,s⟩:=h;refine⟨g,cap,x,t,fun e=>?_⟩;obtain⟨b,off,r,c,a⟩:=s e;refine⟨b,off,r,f b c,fun i hi=>?_⟩;obtain⟨c0,c1,c2,j,k,m,o,q,u⟩:=a i hi;exact⟨c0,c1,c2,(d.cell (p:=⟨b,off+i*4,Zn⟩) c).trans j,(d.cell (p:=⟨b,off+i*4+1,Zn⟩) c).trans k,(d.cell (p:=⟨b,off+i*4+2,Zn⟩) c).trans m,
  (d.cell (p:=⟨b,off+i*4+3,Zn⟩) c).trans o,q,u.keep d f⟩
def Ov(S:ZP)(X:Nat)(o:Option Nat)(w:Zw)(b:Nat):Prop:=S b∨(X<=b/\b<w.heap.size/\o≠Zo b)
theorem Ov.lt{o:Option Nat}(a:∀b,S b->b<X)(c:X<=w.heap.size):∀b,Ov S X o w b->b<w.heap.size:=by
 intro b h;rcases h with h|h;·have:=a b h;omega
 ·exact h.2.1
structure nK(S:ZP)(X M:Nat)(w:Zw)(kv:Zv)(ks:List (K (M+1)))(xs:List Zv):Prop where
 own:w.ownsRow X 31 3 kv ks.length xs
 at_:∀j (h:j<ks.length),∃c0 c1 c2,(xs[j*3]?=Zo c0/\xs[j*3+1]?=Zo c1/\xs[j*3+2]?=Zo c2)/\a8 (Ov S X kv.ownBlock w) w (M+1) ks[j] c0 c1 c2
theorem nK.keep{d:List (K (M+1))}(h:nK S X M w kv d xs)(e:∀b,S b->b<X)(f:X<=w.heap.size)(c:Bw w W):nK S X M W kv d xs:=by
 refine⟨qQ h.own fun g k=>c.block g (jD h.own g k).2,fun j l=>?_⟩;obtain⟨c0,c1,c2,i,m⟩:=h.at_ j l;refine⟨c0,c1,c2,i,m.keep (fun b a=>c.block b (Ov.lt e f b a)) fun b a=>?_⟩;rcases a with a|a;·exact .inl a
 ·exact .inr ⟨a.1,Nat.lt_of_lt_of_le a.2.1 c.size,a.2.2⟩
theorem nK.more {Wa:Zw} {d:List (K (M+1))} {k:K (M+1)} (h:nK S X M W1 kv d xs) (H:∀ b,S b->b<X) (_hX:X<=W1.heap.size)
  (N:a8 (Ov S X kv.ownBlock W1) W1 (M+1) k c0 c1 c2) (t:Wa.heap=W1.heap.push one)
  (s:W2.ownsRow X 31 3 (Zs (Zo ⟨g,0,Zn⟩) (d.length+1) cap) (d.length+1) (xs++[c0,c1,c2])) (i:Wa.grownBy W2 kv.ownBlock) (u:kv.ownBlock=Zo g∨g=W1.heap.size+1) :
  nK S X M W2 (Zs (Zo ⟨g,0,Zn⟩) (d.length+1) cap) (d++[k]) (xs++[c0,c1,c2]):=by
 have Q:W2.heap.size ≥ W1.heap.size+1:=by have:=i.size;rw[t]at this;simp at this;omega
 have y:=jD h.own;have C:∀b,b<W1.heap.size->kv.ownBlock≠Zo b->W2.heap[b]?=W1.heap[b]?:=fun b a z=>by rw[i.block b (by rw[t];simp;omega) (fun e=>z e.symm),t,Array.getElem?_push_lt a,Array.getElem?_eq_getElem a]
 have A:=h.own.1;have q:∀b,kv.ownBlock≠Zo b->b<W1.heap.size->(Value.slice (Zo ⟨g,0,Zn⟩) (d.length+1) cap).ownBlock≠Zo b:=by
  intro b G P e;have e:g=b:=by simpa [Value.ownBlock] using e
  rcases u with B|B;·exact G (by rw[B,e])
  ·omega
 have l:∀ {x:K (M+1)} {m n p:Zv},a8 (Ov S X kv.ownBlock W1) W1 (M+1) x m n p->a8 (Ov S X (Value.slice (Zo ⟨g,0,Zn⟩) (d.length+1) cap).ownBlock W2) W2 (M+1) x m n p:=by
  intro x m n p O;refine O.keep (fun b a=>?_) fun b a=>?_
  ·rcases a with a|a;·have:=H b a;exact C b om fun e=>by have:=y b e;omega
   ·exact C b a.2.1 a.2.2
  ·rcases a with a|a;·exact .inl a
   ·exact .inr ⟨a.1,by have:=a.2.1;omega,q b a.2.2 a.2.1⟩
 refine⟨by rw[Zx,List.length_singleton];exact s,fun j J=>?_⟩;by_cases r:j<d.length
 ·obtain⟨m,n,p,⟨D,E,F⟩,I⟩:=h.at_ j r;have c:∀o v,o<3->xs[j*3+o]?=Zo v->(xs++[c0,c1,c2])[j*3+o]?=Zo v:=fun o v L h=>by rw[List.getElem?_append_left om];exact h
  refine⟨m,n,p,⟨c 0 _ om D,c 1 _ om E,c 2 _ om F⟩,?_⟩;rw[List.getElem_append_left r];exact l I
 ·have w:j=d.length:=by simp at J;omega
  subst w;have f:∀o v,o<3->[c0,c1,c2][o]?=Zo v->(xs++[c0,c1,c2])[d.length*3+o]?=Zo v:=fun o v L h=>by rw[List.getElem?_append_right om,A,Nat.add_sub_cancel_left];exact h
  refine⟨c0,c1,c2,⟨f 0 _ om rfl,f 1 _ om rfl,f 2 _ om rfl⟩,?_⟩;have:(d++[k])[d.length]=k:=zS;rw[this];exact l N
theorem nK.row {j:List (K (M+1))} (h:nK S X M w kv j xs) (l:j.length<=maxLen) :
  gO (Ov S X Zn w) w (a8 (Ov S X Zn w) w (M+1)) j kv:=by
 have t:=jD h.own;rcases h.own.2 with ⟨c,k⟩|⟨g,cap,d,c,a,s,y,x,A,u⟩;·exact⟨Zn,0,by rw[c,k],l,fun f=>absurd (List.length_eq_zero_iff.1 k) f⟩
 ·refine⟨Zo ⟨g,0,Zn⟩,cap,c,l,fun _=>⟨g,0,rfl,.inr ⟨a,(t g (by rw[c];rfl)).2,zS⟩,fun i hi=>?_⟩⟩;obtain⟨c0,c1,c2,⟨n,p,q⟩,r⟩:=h.at_ i hi;have e:∀o v,o<3->xs[i*3+o]?=Zo v->w.cell? ⟨g,0+i*3+o,Zn⟩=Zo v:=fun o v z m=>by rw[cell_of_row w g (0+i*3+o) d _ _ s];rw[<- u,List.getElem?_take_of_lt om]at m;simpa using m
  refine⟨c0,c1,c2,e 0 _ om n,e 1 _ om p,e 2 _ om q,r.keep (fun _ _=>rfl) fun b a=>?_⟩;rcases a with a|a;·exact .inl a
  ·exact .inr ⟨a.1,a.2.1,zS⟩
theorem nK.row2 {e:List (K (M+1))} (h:nK S X M w kv e xs) (j:e.length<=maxLen) :
  gO (Ov S X Zn w) w (a8 (Ov S X kv.ownBlock w) w (M+1)) e kv:=by
 have s:=jD h.own;rcases h.own.2 with ⟨a,f⟩|⟨g,cap,b,a,p,r,x,u,z,t⟩;·exact⟨Zn,0,by rw[a,f],j,fun d=>absurd (List.length_eq_zero_iff.1 f) d⟩
 ·refine⟨Zo ⟨g,0,Zn⟩,cap,a,j,fun _=>⟨g,0,rfl,.inr ⟨p,(s g (by rw[a];rfl)).2,zS⟩,fun i hi=>?_⟩⟩;obtain⟨c0,c1,c2,⟨l,m,n⟩,q⟩:=h.at_ i hi;have c:∀o v,o<3->xs[i*3+o]?=Zo v->w.cell? ⟨g,0+i*3+o,Zn⟩=Zo v:=fun o v y k=>by rw[cell_of_row w g (0+i*3+o) b _ _ r];rw[<- t,List.getElem?_take_of_lt om]at k;simpa using k
  exact⟨c0,c1,c2,c 0 _ om l,c 1 _ om m,c 2 _ om n,q⟩
def sL(w:Zw)(v:Zv)(L:List gL):Prop:=
 ∃(a:ZO)(cap:Nat),v=Zs a L.length cap/\L.length<=maxLen/\(∀i (h:i<L.length),∃b off,a=Zo ⟨b,off,Zn⟩/\L[i]=⟨b,off+i,true⟩)/\∀s,s∈L->s.ok w
theorem sL.sim{L:List gL}(h:sL w v L)(f:xO w w'):sL w' v L:=by obtain⟨b,cap,g,e,c,d⟩:=h;exact⟨b,cap,g,e,c,fun s a=>gL.ok_sim (d s a) f⟩
theorem sL.ok{L:List gL}(h:sL w v L):∀s,s∈L->s.ok w:=by obtain⟨-,-,-,-,-,a⟩:=h;exact a
theorem sL.slice{L:List gL}(h:sL w v L):∃a l c,v=Zs a l c:=by obtain⟨d,cap,b,-⟩:=h;exact⟨_,_,_,b⟩
theorem sL.below{L:List gL}(h:sL w v L)(a:Bw w w'):sL w' v L:=h.sim ((xO.refl w).below a)
theorem Holds.below{L:List gL}{k:Int}(h:Holds w L k)(a:∀s,s∈L->s.ok w)(b:Bw w w'):Holds w' L k:=
 h.keep (fun s c=>b.cell (p:=s.at) (gL.ok_lt (a s c)))
def sK(w:Zw):Nat->Zv->List gL->Prop
 | 0,v,L=>∃c cap,v=Zs c 0 cap/\L=[]
 | n + 1, v, L => ∃ (c : ZO) (cap : Nat) (a : List (List gL)), v = Zs c a.length cap /\ a.length <= maxLen /\ L = a.flatten /\
   ∀i (h:i<a.length),∃b off c3 c4 d e,c=Zo ⟨b,off,Zn⟩/\a[i]=[⟨b,off+i*3,false⟩]++(d++e)/\(⟨b,off+i*3,false⟩:gL).ok w /\
    w.cell? ⟨b,off+i*3+1,Zn⟩=Zo c3/\w.cell? ⟨b,off+i*3+2,Zn⟩=Zo c4/\sL w c3 d/\sK w n c4 e
theorem sK.slice:∀ {n:Nat} {v:Zv} {L:List gL},sK w n v L->∃a l c,v=Zs a l c:=by
 intro n;cases n with
 | zero=>rintro v L ⟨d,cap,b,-⟩;exact⟨_,_,_,b⟩
 | succ n=>rintro v L ⟨d,cap,e,b,-⟩;exact⟨_,_,_,b⟩
theorem sK.sim(d:xO w w'):∀ {n:Nat} {v:Zv} {L:List gL},sK w n v L->sK w' n v L:=by
 intro n;induction n with
 | zero=>intro v L h;exact h
 | succ n y=>
  rintro v L ⟨p,cap,o,x,u,s,hi⟩;refine⟨p,cap,o,x,u,s,fun i h=>?_⟩;obtain⟨b,off,c3,c4,k,m,t,e,f,q,r,g,j⟩:=hi i h;refine⟨b,off,c3,c4,k,m,t,e,gL.ok_sim f d,?_,?_,g.sim d,y j⟩;·obtain⟨a,l,c,rfl⟩:=g.slice;exact d.sl _ _ _ _ _ q
  ·obtain⟨a,l,c,rfl⟩:=j.slice;exact d.sl _ _ _ _ _ r
theorem sK.ok:∀ {n:Nat} {v:Zv} {L:List gL},sK w n v L->∀s,s∈L->s.ok w:=by
 intro n;induction n with
 | zero=>rintro v L ⟨j,cap,m,rfl⟩ s g;cases g
 | succ n o=>
  rintro v L ⟨j,cap,t,m,z,rfl,hi⟩ s g;obtain⟨r,c,a⟩:=List.mem_flatten.1 g;obtain⟨i,h,rfl⟩:=List.getElem_of_mem c;obtain⟨b,off,c3,c4,p,q,y,c,f,u,x,k,l⟩:=hi i h;rw[c]at a;rcases List.mem_append.1 a with d|d;·rw[List.mem_singleton]at d;subst d;exact f
  ·rcases List.mem_append.1 d with e|e;·exact k.ok s e
   ·exact o l s e
theorem sK.below{L:List gL}(h:sK w n v L)(a:Bw w w'):sK w' n v L:=h.sim ((xO.refl w).below a)
def Own(P:ZP)(L:List gL):Prop:=(∀s,s∈L->P s.b)/\L.Pairwise (fun a b=>a.at≠b.at)
theorem Own.nil(P:ZP):Own P []:=⟨fun _ h=>(by cases h),List.Pairwise.nil⟩
theorem Own.mono{L:List gL}(h:Own P L)(a:∀b,P b->Q b):Own Q L:=⟨fun s c=>a _ (h.1 s c),h.2⟩
theorem BM{a b:gL}(h:a.b≠b.b):a.at≠b.at:=fun e=>h (by simpa [gL.at] using congrArg Addr.block e)
theorem Own.app{R:ZP}{L M:List gL}(h:Own P L)(k:Own Q M)(i:∀b,P b->R b)(j:∀b,Q b->R b)(g:∀b,P b->Q b->False):Own R (L++M):=by
 refine⟨fun s l=>?_,List.pairwise_append.2 ⟨h.2,k.2,fun a d b f=>BM fun e=>g a.b (h.1 a d) (by rw[e];exact k.1 b f)⟩⟩;rcases List.mem_append.1 l with c|c;·exact i _ (h.1 s c)
 ·exact j _ (k.1 s c)
theorem gL.ok_same{s:gL}(h:s.ok w)(c:w'.heap[s.b]?=w.heap[s.b]?):s.ok w':=by
 have d:w'.cell? s.at=w.cell? s.at:=World.cell?_of_block (w:=w) (w':=w') (a:=s.at) c;have e:w'.frozen? s.at=w.frozen? s.at:=by have:w'.heap[s.at.block]?=w.heap[s.at.block]?:=c;simp only[World.frozen?,this]
 unfold gL.ok;rw[d,e];exact h
theorem sL.same{L:List gL}(h:sL w v L)(e:∀s,s∈L->w'.heap[s.b]?=w.heap[s.b]?):sL w' v L:=by obtain⟨c,cap,i,g,d,f⟩:=h;exact⟨c,cap,i,g,d,fun s a=>gL.ok_same (f s a) (e s a)⟩
theorem sL.no(w:Zw):sL w (Zs Zn 0 0) []:=⟨Zn,0,rfl,by simp[maxLen],fun i h=>absurd h (Nat.not_lt_zero _),fun _ h=>(by cases h)⟩
theorem zv{l:List ZN}(h:w.ownsRow M e 1 v l.length (l.map Zt))(r:l.length<=20000):∃L,sL w v L/\L.length=l.length/\Own (fun b=>v.ownBlock=Zo b) L:=by
 rcases id h.2 with ⟨rfl,k⟩|⟨g,cap,j,rfl,m,p,q,n,o,f⟩;·exact⟨[],sL.no w,by rw[k];rfl,Own.nil _⟩
 ·refine⟨(List.range l.length).map (fun i=>(⟨g,0+i,true⟩:gL)),⟨_,cap,by rw[List.length_map,List.length_range],by simp[maxLen];omega,fun i hi=>⟨g,0,rfl,zS⟩,fun s d=>?_⟩,zS,fun s d=>?_,?_⟩;·obtain⟨i,hi,rfl⟩:=List.mem_map.1 d;have c:=List.mem_range.1 hi;have:=h.cells (g:=g) rfl i (Zt l[i]) (by simp[c]);rw[Addr.add_lit]at this;exact⟨⟨l[i],this⟩,by simp[World.frozen?,gL.at,p]⟩
  ·obtain⟨i,hi,rfl⟩:=List.mem_map.1 d;rfl
  ·refine List.pairwise_map.2 (List.Pairwise.imp (fun {a b} hab e=>?_) List.pairwise_lt_range);have:0+a=0+b:=by simpa [gL.at] using congrArg Addr.off e
   omega
theorem sK.same:∀ {n:Nat} {v:Zv} {L:List gL},sK w n v L->(∀s,s∈L->w'.heap[s.b]?=w.heap[s.b]?)->sK w' n v L:=by
 intro n;induction n with
 | zero=>intro v L h _;exact h
 | succ n z=>
  rintro v L ⟨m,cap,j,y,t,rfl,hi⟩ r;refine⟨m,cap,j,y,t,rfl,fun i h=>?_⟩;obtain⟨b,off,c3,c4,k,l,q,d,g,o,p,u,x⟩:=hi i h;have f:∀s,s∈j[i]->w'.heap[s.b]?=w.heap[s.b]?:=fun s e=>r s (List.mem_flatten.2 ⟨_,Zg h,e⟩);rw[d]at f;have c:w'.heap[b]?=w.heap[b]?:=f ⟨b,off+i*3,false⟩ zS;refine⟨b,off,c3,c4,k,l,q,d,gL.ok_same g c,?_,?_,u.same (fun s e=>f s (by simp[e])),z x (fun s e=>f s (by simp[e]))⟩;·exact (World.cell?_of_block (w:=w) (w':=w') (a:=⟨b,off+i*3+1,Zn⟩) c).trans o
  ·exact (World.cell?_of_block (w:=w) (w':=w') (a:=⟨b,off+i*3+2,Zn⟩) c).trans p
theorem sK.no(w:Zw)(n:Nat):sK w n (Zs Zn 0 0) []:=by
 cases n with
 | zero=>exact⟨Zn,0,rfl,rfl⟩
 | succ n=>exact⟨Zn,0,[],rfl,by simp[maxLen],rfl,fun i h=>absurd h (Nat.not_lt_zero _)⟩
def pK(P:ZP)(w:Zw)(n:Nat)(d:List (K n))(xs:List Zv)(a:List (List gL)):Prop:=
 Own P a.flatten/\∀j (h:j<d.length) (e:j<a.length),∃c0 c1 c2 b c,(xs[j*3]?=Zo c0/\xs[j*3+1]?=Zo c1/\xs[j*3+2]?=Zo c2)/\a[j]=b++c /\
  a8 P w n d[j] c0 c1 c2/\sL w c1 b/\sK w (n-1) c2 c
theorem zu {l:List (K n)} {c:List (List gL)} (h:w.ownsRow M e 3 v l.length xs) (hl:l.length<=20000) (J:c.length=l.length) (F:pK P w n l xs c) (hP:∀ b,P b->v.ownBlock≠Zo b) :
  ∃L,sK w n v L/\Own (fun b=>P b∨v.ownBlock=Zo b) L/\L.length=l.length+c.flatten.length:=by
 rcases id h.2 with ⟨rfl,D⟩|⟨g,cap,W,rfl,aa,hg,ad,ab,ac,R⟩;·have:c=[]:=List.eq_nil_of_length_eq_zero om;subst this;exact⟨[],sK.no w n,Own.nil _,by simp[D]⟩
 ·have N:∀ (i:Nat),i<l.length->n≠0:=by intro i hi hn;subst hn;obtain⟨c0,c1,c2,T,U,-,-,Q,-⟩:=F.2 i hi om;exact Q.elim
  have t:∀i (hi:i<l.length),((List.range l.length).map (fun i=>([⟨g,0+i*3,false⟩]:List gL)++c.getD i []))[i]'(by simpa using hi)=([⟨g,0+i*3,false⟩]:List gL)++c[i]'om:=by intro i hi;have:i<c.length:=om;simp[List.getD,this]
  have A:Own (fun b=>P b∨(Value.slice (Zo ⟨g,0,Zn⟩) l.length cap).ownBlock=Zo b) ((List.range l.length).map (fun i=>([⟨g,0+i*3,false⟩]:List gL)++c.getD i [])).flatten:=by
   have C:=List.pairwise_flatten.1 F.1.2;have p:∀i s,s∈c.getD i []->P s.b:=fun i s k=>by
    by_cases hi:i<c.length;·rw[List.getD_eq_getElem?_getD,List.getElem?_eq_getElem hi,Option.getD_some]at k;exact F.1.1 s (List.mem_flatten.2 ⟨_,Zg hi,k⟩)
    ·rw[List.getD_eq_getElem?_getD,List.getElem?_eq_none om]at k;cases k
   have r:∀o (s:gL),s∈([⟨g,o,false⟩]:List gL)->s.b=g/\s.o=o:=fun o s k=>by rw[List.mem_singleton]at k;subst k;exact⟨rfl,rfl⟩
   have q:∀(s:gL),P s.b->s.b≠g:=fun s k e=>hP g (by rw[<- e];exact k) rfl;refine⟨fun s k=>?_,List.pairwise_flatten.2 ⟨fun x S=>?_,?_⟩⟩
   ·obtain⟨x,S,O⟩:=List.mem_flatten.1 k;obtain⟨i,hi,rfl⟩:=List.mem_map.1 S;rcases List.mem_append.1 O with d|d;·right;rw[(r _ s d).1];rfl
    ·left;exact p i s d
   ·obtain⟨i,hi,rfl⟩:=List.mem_map.1 S;refine List.pairwise_append.2 ⟨List.pairwise_singleton _ _,?_,fun a H b E=>BM fun e=>q b (p i b E) (by rw[<- e,(r _ a H).1])⟩;by_cases hi:i<c.length;·rw[List.getD_eq_getElem?_getD,List.getElem?_eq_getElem hi,Option.getD_some];exact C.1 _ (Zg hi)
    ·rw[List.getD_eq_getElem?_getD,List.getElem?_eq_none om];exact List.Pairwise.nil
   ·refine List.pairwise_map.2 (List.Pairwise.imp (fun {i j} hij a H b E=>?_) List.pairwise_lt_range);rcases List.mem_append.1 H with d|d
    ·rcases List.mem_append.1 E with f|f
     ·intro e;have e':a.o=b.o:=by simpa [gL.at] using congrArg Addr.off e
      have q1:=(r _ a d).2;have q2:=(r _ b f).2;omega
     ·exact BM fun e=>q b (p j b f) (by rw[<- e,(r _ a d).1])
    ·rcases List.mem_append.1 E with f|f;·exact BM fun e=>q a (p i a d) (by rw[e,(r _ b f).1])
     ·by_cases V:j<c.length;·rw[List.getD_eq_getElem?_getD,List.getElem?_eq_getElem V,Option.getD_some]at f;rw[List.getD_eq_getElem?_getD,List.getElem?_eq_getElem (by omega:i<c.length),Option.getD_some]at d;exact (List.pairwise_iff_getElem.1 C.2) i j om V hij a d b f
      ·rw[List.getD_eq_getElem?_getD,List.getElem?_eq_none om]at f;cases f
  have z:((List.range l.length).map (fun i=>([⟨g,0+i*3,false⟩]:List gL)++c.getD i [])).flatten.length=l.length+c.flatten.length:=by
   have e:c=(List.range l.length).map (fun i=>c.getD i []):=by refine List.ext_getElem (by simp[J]) fun i d f=>?_;simp[List.getD,d]
   conv=>rhs;rw[e]
   generalize l.length=m;induction m with
   | zero=>rfl
   | succ m ih=>rw[List.range_succ,List.map_append,List.flatten_append,Zx,ih,List.map_append,List.flatten_append,Zx];simp;omega
  refine⟨_,?_,A,z⟩;cases n with
  | zero=>have D:l.length=0:=Nat.eq_zero_of_not_pos fun B=>N 0 B rfl;exact⟨Zo ⟨g,0,Zn⟩,cap,by rw[D],by rw[D];rfl⟩
  | succ m=>
   refine⟨Zo ⟨g,0,Zn⟩,cap,_,by rw[List.length_map,List.length_range],by simp[maxLen];omega,rfl,fun i hi=>?_⟩;have y:i<l.length:=by simpa using hi
   obtain⟨c0,c1,c2,T,U,⟨X,Y,Z⟩,G,Q,h3,h4⟩:=F.2 i y om;have I:∀j u,xs[j]?=Zo u->w.cell? ⟨g,0+j,Zn⟩=Zo u:=fun j u hu=>by have:=h.cells (g:=g) rfl j u hu;rwa [Addr.add_lit]at this
   obtain⟨rfl,-⟩:=Q;have hf:∀o,w.frozen? ⟨g,o,Zn⟩=false:=fun o=>by simp[World.frozen?,hg]
   exact⟨g,0,c1,c2,T,U,rfl,by rw[t i y,G],⟨⟨_,I _ _ X⟩,hf _⟩,I _ _ Y,I _ _ Z,h3,h4⟩
def tX:(n:Nat)->K n->Nat
 | 0,_=>0
 | n+1,t=>(Kd.names t).length+b4 (fun k=>1+tX n k) (Kd.kids t)
structure lT(X n:Nat)(ks:List (K n))(s:Int)(nv:Zv)(w1:Zw)(k:Nat)(v:Zv)(wr:Zw):Prop where
 near:b8 X w1 wr
 box:wr.heap[X]?=Zo (Zc #[Zi Zk s,nv,v] 31 (0,0))
 row:∃xs Ps,wr.ownsRow w1.heap.size 31 3 v k xs/\Ps.length=k/\pK (fun b=>w1.heap.size<=b/\b<wr.heap.size/\v.ownBlock≠Zo b) wr n ks xs Ps/\Ps.flatten.length+k=b4 (fun x=>1+tX n x) (ks.take k)
theorem lT.lt{a:List (K n)}{s:Int}(h:lT X n a s nv w1 k v wr):X<wr.heap.size:=(ZF.1 h.box).1
theorem Du {E:List (K n)} {s:Int} {l i:Zw} {G:List (List gL)} {C D:List gL} (h:b8 X w1 wr) (hX:X<w1.heap.size)
  (I:wr.heap[X]?=Zo (Zc #[Zi Zk s,nv,v] 31 (0,0))) (hk:k<E.length)
  (u:wr.ownsRow w1.heap.size 31 3 v k xs) (L:G.length=k) (A:pK (fun b=>w1.heap.size<=b/\b<wr.heap.size/\v.ownBlock≠Zo b) wr n E xs G) (Z:G.flatten.length+k=b4 (fun x=>1+tX n x) (E.take k))
  (P:W.heap=wr.heap) (w:W.os=wr.os/\W.tape=wr.tape/\W.output=wr.output)
  (m:Bw W l) (Y:a8 (fun b=>wr.heap.size<=b/\b<l.heap.size) l n E[k] c0 c1 c2) (M:sL l c1 C) (h4:sK l (n-1) c2 D) (ho:Own (fun b=>wr.heap.size<=b/\b<l.heap.size) (C++D)) (hl:(C++D).length=tX n E[k])
  (d:i.ownsRow w1.heap.size 31 3 (Zs (Zo ⟨g,0,Zn⟩) (k+1) cap) (k+1) (xs++[c0,c1,c2])) (c:(l.alloc one).grownBy i v.ownBlock) (R:v.ownBlock=Zo g∨g=l.heap.size+1) :
  lT X n E s nv w1 (k+1) (Zs (Zo ⟨g,0,Zn⟩) (k+1) cap) (i.setCell ⟨X,2,Zn⟩ (Zs (Zo ⟨g,0,Zn⟩) (k+1) cap)):=by
 have ac:=m.size;have ad:=c.size;have ag:=h.size;simp at ad;rw[P]at ac;have B:∀b,v.ownBlock=Zo b->w1.heap.size<=b/\b<wr.heap.size:=fU u;have ab:xs.length=k*3:=u.1;have q3:∀b,b<l.heap.size->v.ownBlock≠Zo b->i.heap[b]?=l.heap[b]?:=fun b a r=>by rw[c.block b zE (fun e=>r e.symm),Below.heap_alloc _ _ _ a]
 have N:∀b,b<wr.heap.size->v.ownBlock≠Zo b->i.heap[b]?=wr.heap[b]?:=fun b a aa=>by rw[q3 b om aa,m.block b (by rw[P];exact a),P]
 have F:∀b,b≠X->(i.setCell ⟨X,2,Zn⟩ (Zs (Zo ⟨g,0,Zn⟩) (k+1) cap)).heap[b]?=i.heap[b]?:=fun b a=>Below.heap_setCell _ _ _ _ a;have q:(i.setCell ⟨X,2,Zn⟩ (Zs (Zo ⟨g,0,Zn⟩) (k+1) cap)).heap.size=i.heap.size:=zS;have Q:v.ownBlock≠Zo X:=fun e=>by have:=B X e;omega
 have y:=(N X om Q).trans I;have f:∀b,v.ownBlock≠Zo b->b<l.heap.size->(Value.slice (Zo ⟨g,0,Zn⟩) (k+1) cap).ownBlock≠Zo b:=by
  intro b O h2 e;have e:g=b:=by simpa [Value.ownBlock] using e
  rcases R with M|M;·exact O (by rw[M,e])
  ·omega
 have t:∀b,wr.heap.size<=b->v.ownBlock≠Zo b:=fun b O e=>by have:=B b e;omega
 have ae:=fU d g rfl;refine⟨⟨?_,?_,?_,by rw[q];omega,fun b a r=>?_⟩,?_,xs++[c0,c1,c2],G++[C++D],gh d fun g' V=>F g' (by have:=fU d g' V;omega),by simp[L],⟨?_,fun j hj hp=>?_⟩,?_⟩;·show i.os=w1.os;rw[c.os];exact m.os.trans (w.1.trans h.os)
 ·show i.tape=w1.tape;rw[c.tape];exact m.tape.trans (w.2.1.trans h.tape)
 ·show i.output=w1.output;rw[c.output];exact m.output.trans (w.2.2.trans h.output)
 ·rw[F b r,N b om (fun e=>by have:=B b e;omega)];exact h.block b a r
 ·simp[World.setCell,Array.getElem?_modify,y]
 ·rw[List.flatten_append,List.flatten_singleton];refine A.1.app ho (fun b a=>⟨a.1,by rw[q];omega,f b a.2.2 om⟩) (fun b a=>⟨om,by rw[q];omega,f b (t b a.1) a.2⟩) (fun b O h2=>om)
 ·by_cases af:j<k
  ·have z:j<G.length:=by omega
   obtain⟨d0,d1,d2,K3,K4,hd,H,U,S,T⟩:=A.2 j hj z;have p:∀s,s∈K3++K4->(i.setCell ⟨X,2,Zn⟩ (Zs (Zo ⟨g,0,Zn⟩) (k+1) cap)).heap[s.b]?=wr.heap[s.b]?:=fun s o=>by have:=A.1.1 s (List.mem_flatten.2 ⟨_,Zg z,by rw[H];exact o⟩);rw[F s.b (by have:=this.1;omega)];exact N s.b this.2.1 this.2.2
   refine⟨d0,d1,d2,K3,K4,?_,by rw[List.getElem_append_left z];exact H,U.keep (fun b a=>by rw[F b (by have:=a.1;omega)];exact N b a.2.1 a.2.2) (fun b a=>⟨a.1,by rw[q];have:=a.2.1;omega,f b a.2.2 (by have:=a.2.1;omega)⟩),
    S.same (fun s o=>p s (List.mem_append_left _ o)),T.same (fun s o=>p s (List.mem_append_right _ o))⟩
   rw[List.getElem?_append_left om,List.getElem?_append_left om,List.getElem?_append_left om];exact hd
  ·have J:j=k:=by simp at hp;omega
   subst J;have p:∀s,s∈C++D->(i.setCell ⟨X,2,Zn⟩ (Zs (Zo ⟨g,0,Zn⟩) (j+1) cap)).heap[s.b]?=l.heap[s.b]?:=fun s o=>by have:=ho.1 s o;rw[F s.b om];exact q3 s.b this.2 (t _ this.1)
   refine⟨c0,c1,c2,C,D,?_,by simp[<- L],Y.keep (fun b a=>by rw[F b om];exact q3 b a.2 (t b a.1)) (fun b a=>⟨by have:=a.1;omega,by rw[q];have:=a.2;omega,f b (t b a.1) a.2⟩),
    M.same (fun s o=>p s (List.mem_append_left _ o)),h4.same (fun s o=>p s (List.mem_append_right _ o))⟩
   rw[List.getElem?_append_right om,List.getElem?_append_right om,List.getElem?_append_right om,ab,
    Nat.sub_self,show j*3+1-j*3=1 by omega,show j*3+2-j*3=2 by omega]
   exact⟨rfl,rfl,rfl⟩
 ·rw[List.take_succ_eq_append_getElem hk,Eb,<- Z,List.flatten_append,List.flatten_singleton,Zx,hl];omega
set_option maxRecDepth 100000
set_option maxHeartbeats 16000000
theorem Tryz.info_kindO:(prog.info? 31).map (fun i=>(i.zero,i.size,i.bytes))=Zo (Zo (.agg #[Zi Zk 0,Zs Zn 0 0,Zs Zn 0 0]),3,56):=by kernel_rfl
def pO(n:Nat)(t:K n)(w:Zw)(e:Ending)(w':Zw):Prop:=
 Bw w w' /\ ∃g d f a c,e=.returned (.agg #[g,d,f])/\a8 (fun b=>w.heap.size<=b/\b<w'.heap.size) w' n t g d f/\sL w' d a/\sK w' (n-1) f c /\
  Own (fun b=>w.heap.size<=b/\b<w'.heap.size) (a++c)/\(a++c).length=tX n t
def sJ(n:Nat):Prop:=∀(S:ZP)(t:K n)(v:Zv)(d:Int)(w:Zw),b9 S w n t v->(Bd S w)->fM n t d=true->fR n t<=40->Calls prog 43 #[v] w (pO n t w)
theorem FM{t:K (n+1)}{d:Int}(h:fM (n+1) t d=true):(Lit.int Zk (Kd.sort t)).wf=true:=by
 simp only[fM,Bool.and_eq_true]at h;have a:fX (Kd.sort t) (Kd.names t) (Kd.kids t).length=true:=h.1.2;generalize Kd.sort t=s at *;unfold fX at a;by_cases b:s=1;·subst b;rfl
 by_cases c:s=2;·subst c;rfl
 by_cases e:s=3;·subst e;rfl
 by_cases f:s=4;·subst f;rfl
 by_cases g:s=5;·subst g;rfl
 by_cases i:s=6;·subst i;rfl
 rw[if_neg b,if_neg c,if_neg e,if_neg f,if_neg g,if_neg i]at a;cases a
structure lN(n:Nat)(t:K (n+1))(w:Zw)(X:Nat)(s:Int)(nv:Zv)(W:Zw):Prop where
 below:Bw w W
 zero:W.heap[w.heap.size]?=Zo (Zc #[Zi Zk 0,Zs Zn 0 0,Zs Zn 0 0] 31 (0,0))
 box:W.heap[X]?=Zo (Zc #[Zi Zk s,nv,Zs Zn 0 0] 31 (0,0))
 names:W.ownsRow (w.heap.size+1) 9 1 nv (Kd.names t).length ((Kd.names t).map Zt)
 far:nv.ownBlock≠Zo X
 low:w.heap.size<X
theorem wM {t:K (n+1)} {s:Int} (d:Bw w W1) (g:W1.heap.size=w.heap.size+1) (c:W1.heap[w.heap.size]?=Zo (Zc #[Zi Zk 0,Zs Zn 0 0,Zs Zn 0 0] 31 (0,0))) (b:Bw W1 w1)
  (a:w1.ownsRow W1.heap.size 9 1 nv (Kd.names t).length ((Kd.names t).map Zt)):lN n t w w1.heap.size s nv (w1.alloc (Zc #[Zi Zk s,nv,Zs Zn 0 0] 31)):=by have h:=b.size;have f:=fU a;refine⟨(d.trans (b.mono om)).alloc om _,?_,heap_alloc_new _ _,by rw[<- g];exact a.alloc _,fun e=>by have:=f _ e;omega,om⟩;rw[Below.heap_alloc _ _ _ om,b.block _ om];exact c
theorem AG {t:K (n+1)} {s:Int} (f:Bw w W1) (l:W1.heap.size=w.heap.size+1) (d:W1.heap[w.heap.size]?=Zo (Zc #[Zi Zk 0,Zs Zn 0 0,Zs Zn 0 0] 31 (0,0)))
  (b:W2=W1.alloc (Zc #[Zi Zk 0,Zs Zn 0 0,Zs Zn 0 0] 31)) (c:Bw W2 w1)
  (a:w1.ownsRow W2.heap.size 9 1 nv (Kd.names t).length ((Kd.names t).map Zt)):lN n t w (w.heap.size+1) s nv (iD w1 (w.heap.size+1) 0 (Zi Zk s) nv (Zs Zn 0 0)):=by
 have o:W2.heap.size=w.heap.size+2:=by rw[b];simp;omega
 have q:=c.size;have i:=fU a;have k:w1.heap[w.heap.size+1]?=Zo (Zc #[Zi Zk 0,Zs Zn 0 0,Zs Zn 0 0] 31 (0,0)):=by rw[c.block _ om,b,<- l];exact heap_alloc_new _ _
 have h:Bw w W2:=by rw[b];exact f.alloc f.size _
 refine⟨js (h.trans (c.mono om)) om,?_,?_,?_,fun e=>by have:=i _ e;omega,om⟩;·rw[ia om,c.block _ om,b,Below.heap_alloc _ _ _ om];exact d
 ·simp[iD,World.setCell,Array.getElem?_modify,k]
 ·have p:w1.ownsRow (w.heap.size+1) 9 1 nv (Kd.names t).length ((Kd.names t).map Zt):=by refine⟨a.1,a.2.elim .inl fun ⟨g,cap,j,e,m,r⟩=>.inr ⟨g,cap,j,e,om,r⟩⟩
  exact gh p fun g m=>ia (by have:=i g m;omega)
theorem k7 {N:Nat} (h:w.heap[N]?=Zo (Zc #[Zi Zk 0,Zs Zn 0 0,Zs Zn 0 0] 31 (0,0))) :
  (w.cell? ⟨N,0,Zn⟩=Zo (Zi Zk 0)/\w.cell? ⟨N,1,Zn⟩=Zo (Zs Zn 0 0)/\w.cell? ⟨N,2,Zn⟩=Zo (Zs Zn 0 0)) /\
   w.frozen? ⟨N,0,Zn⟩=false/\w.frozen? ⟨N,1,Zn⟩=false/\w.frozen? ⟨N,2,Zn⟩=false:=by refine⟨⟨?_,?_,?_⟩,?_,?_,?_⟩<;>simp[World.cell?,World.frozen?,h]
theorem F2 {t:K (n+1)} {s:Int} (h:lN n t w X s nv W) (G:Kd.sort t=s) (C:(Lit.int Zk s).wf=true) (hl:(Kd.names t).length<=100) (A:∀ x,x∈Kd.names t->x.size<=10000) (V:(Kd.kids t).length<=100)
  (i:lT X n (Kd.kids t) s nv W (Kd.kids t).length v wr):pO (n+1) t w (.returned (.agg #[Zi Zk s,nv,v])) (iD wr w.heap.size 0 (Zi Zk s) nv v):=by
 have F:=h.low;have Y:=h.below.size;have Z:=i.near.size;obtain⟨xs,Ps,k,B,m,z⟩:=i.row;have H:=fU k;have f:=fU h.names;have q:∀b,b≠w.heap.size->(iD wr w.heap.size 0 (Zi Zk s) nv v).heap[b]?=wr.heap[b]?:=fun b h=>ia h;have D:(iD wr w.heap.size 0 (Zi Zk s) nv v).heap.size=wr.heap.size:=iU;have R:X<W.heap.size:=(ZF.1 h.box).1;have d:wr.ownsRow (w.heap.size+1) 9 1 nv (Kd.names t).length ((Kd.names t).map Zt):=gh h.names fun g l=>i.near.block g (f g l).2 (fun e=>h.far (by rw[<- e];exact l));obtain⟨E,p1,p2,p3⟩:=zv d om;obtain⟨o,Q,P,p⟩:=zu k om B m (fun b c=>c.2.2);rw[List.take_length]at z;have r:Own (fun b=>W.heap.size<=b/\b<wr.heap.size) o:=P.mono (fun b c=>c.elim (fun h=>⟨h.1,h.2.1⟩) (fun h=>H b h));have a:Own (fun b=>w.heap.size+1<=b/\b<wr.heap.size) (E++o):=p3.app r (fun b h=>by have:=f b h;omega) (fun b h=>om) (fun b M h2=>by have:=f b M;omega);have u:Bw w wr:=⟨i.near.os.trans h.below.os,i.near.tape.trans h.below.tape,i.near.output.trans h.below.output,om,fun b c=>(i.near.block b om om).trans (h.below.block b c)⟩;refine⟨js u (Nat.le_refl _),_,_,_,E,o,rfl,⟨by rw[G],by rw[G];exact C,?_,?_⟩,p1.same (fun x h=>q _ (by have:=(a.1 x (List.mem_append_left _ h)).1;omega)),Q.same (fun x h=>q _ (by have:=(a.1 x (List.mem_append_right _ h)).1;omega)),a.mono (fun b c=>by rw[D];omega),?_⟩;·have N:=kg (S:=fun b=>w.heap.size+1<=b/\b<wr.heap.size) d om A (fun g l=>by have:=f g l;omega);exact N.keep (fun b c=>q b om) (fun b c=>by rw[D];omega)
 ·have O:=lM (S:=fun b=>w.heap.size+1<=b/\b<wr.heap.size) k om (fun g l=>by have:=H g l;omega) (fun j U=>by
   obtain⟨I,J,L,K3,K4,T,-,y,-⟩:=m.2 j U om
   exact⟨I,J,L,T,y.keep (fun _ _=>rfl) (fun b c=>⟨by have:=c.1;omega,c.2.1⟩)⟩)
  exact O.keepK (fun b c=>q b om) (fun b c=>by rw[D];omega)
 ·rw[Zx,p2,p];show _=(Kd.names t).length+b4 (fun x=>1+tX n x) (Kd.kids t);omega
theorem tI(n:Nat)(hn:sJ n):sJ (n+1):=by
 intro S t v d w aI hB hg hc;have aJ:=FM hg;have ab:=oe hg;have aa:=BW hg;have U:=hg;simp only[fM,Bool.and_eq_true]at U;have ai:Hid (∀j (h:j<(Kd.kids t).length),fM n (Kd.kids t)[j] (d+1)=true/\fR n (Kd.kids t)[j]<=40):=by intro j h;refine⟨List.all_eq_true.1 U.2 _ (Zg h),?_⟩;have:=gK (fun x=>fR n x) (Kd.kids t) _ (Zg h);simp only[fR]at hc;omega
 have aS:(Kd.kids t).length<=40:=by have:=Ct (Kd.kids t) U.2;simp only[fR]at hc;omega
 have aT:(Kd.names t).length<=40:=by
  by_cases h5:Kd.sort t=5;·have:=(aa h5).1;omega
  ·rw[ab h5];simp
 have ae:∀x,x∈Kd.names t->x.size<=10000:=by
  intro x hx;by_cases h5:Kd.sort t=5;·have:=A7 (aa h5).2 x hx;omega
  ·rw[ab h5]at hx;cases hx
 have aD:Hid (∀x,x∈Kd.names t->x.size<=10000):=ae;clear U hg hc ab aa;obtain⟨b,nv,pv,kv,rfl,aE,l,hN,-,hK⟩:=aI;obtain⟨na,nc,rfl,-⟩:=id hN;obtain⟨ka,kc,rfl,-,z⟩:=id hK;generalize hs:Kd.sort t=s at *;have HS:Hid (Kd.sort t=s):=hs;clear hs;have E:=hB b aE;have k0:w.cell? ⟨b,0,Zn⟩=Zo (Zi Zk s):=by simp[World.cell?,l]
 have k1:w.cell? ⟨b,1,Zn⟩=Zo (Zs na (Kd.names t).length nc):=by simp[World.cell?,l]
 have k3:w.cell? ⟨b,3,Zn⟩=Zo (Zs ka (Kd.kids t).length kc):=by simp[World.cell?,l]
 obtain⟨N,I⟩:=ii (w.alloc (Zc #[Zi Zk 0,Zs Zn 0 0,Zs Zn 0 0] 31));have af:N.heap.size=w.heap.size+1:=by rw[I];simp
 have D:Bw w N:=by rw[I];exact gx _ _
 have M:N.heap[w.heap.size]?=Zo (Zc #[Zi Zk 0,Zs Zn 0 0,Zs Zn 0 0] 31 (0,0)):=by rw[I];exact heap_alloc_new _ _
 have j0:=kC D k0 E;have j1:=kC D k1 E;have HC:∀ W,Bw w W->w.heap.size+1<=W.heap.size->Calls prog 88 #[Zs na (Kd.names t).length nc] W.drew fun e w'=>∃ r y u,e=.returned (Zs r y u)/\Bw W w' /\ w'.cell? ⟨b,0,Zn⟩=Zo (Zi Zk s) /\
   w'.ownsRow W.heap.size 9 1 (Zs r y u) (Kd.names t).length ((Kd.names t).map Zt):=by
  intro W am aU
  refine (uG S (Kd.names t) _ W.drew (hN.keep (a6 am.drew hB) (fun _ h=>h)) (fun b R=>by have:=hB b R;simp;omega) om ae).mono ?_
  rintro e w' ⟨v',rfl,f,R⟩
  have ak:Bw W w':=((Below.refl _ _).drew).trans R
  obtain⟨a,c,rfl⟩:=mV f
  exact⟨_,_,_,rfl,ak,kC ak ((am.cell (p:=⟨b,0,Zn⟩) E).trans k0) om,f⟩
 have ah:Hid (Calls prog 88 #[Zs na (Kd.names t).length nc] N.drew _):=HC N D om;have T:Bw w (N.alloc (Zc #[Zi Zk 0,Zs Zn 0 0,Zs Zn 0 0] 31)):=D.alloc D.size _;have ag:Hid (Calls prog 88 #[Zs na (Kd.names t).length nc] (N.alloc (Zc #[Zi Zk 0,Zs Zn 0 0,Zs Zn 0 0] 31)).drew _):=HC _ T zE;have aj:Hid ((N.alloc (Zc #[Zi Zk 0,Zs Zn 0 0,Zs Zn 0 0] 31)).heap[w.heap.size+1]?=Zo (Zc #[Zi Zk 0,Zs Zn 0 0,Zs Zn 0 0] 31 (0,0))):=by rw[<- af];exact heap_alloc_new _ _
 have Q:Hid (N.heap[w.heap.size]?=Zo (Zc #[Zi Zk 0,Zs Zn 0 0,Zs Zn 0 0] 31 (0,0))/\Bw w N):=⟨M,D⟩;have HK:Hid (lx S w (b9 S w n) (Kd.kids t) (Zs ka (Kd.kids t).length kc)):=hK;have aK:=kC T k0 E;have aL:=kC T k1 E;clear hN hK ae M l HC T;go_in;go_wp2_with fail;rw[<- I];clear I;go_upto_region 1 with fail;go_cut [3] from 6 (fun v wx=>∃(X:Nat)(r:ZO)(y u:Nat),v=Zp (Zo ⟨X,0,Zn⟩)/\lN n t w X s (Zs r y u) wx);case first=>
  go_region_law (first
   | (go_simp;go_at_call 88;refine ah.out.mono ?_;rintro e w1 ⟨r,y,u,rfl,m,az,f⟩;have aQ:(w1.alloc (Zc #[Zi Zk 0,Zs Zn 0 0,Zs Zn 0 0] 31)).cell? ⟨b,0,Zn⟩=Zo (Zi Zk s):=((World.cell?_of_block (Below.heap_alloc _ _ _ (by show b<_;have:=m.size;omega))).trans az))
   | (go_simp;go_at_call 88;refine ag.out.mono ?_;rintro e w1 ⟨r,y,u,rfl,m,az,f⟩;obtain⟨⟨r0,r1,r2⟩,f0,f1,f2⟩:=k7 ((m.block (w.heap.size+1) zE).trans aj.out)))
  all_goals
   have B:Hid (lN n t w _ s (Zs r y u) _):=(by first|exact wM Q.out.2 af Q.out.1 m f|exact AG Q.out.2 af Q.out.1 rfl m f)
   clear m f
   go_wp2
   go_meet
   exact⟨_,_,_,_,rfl,B.out⟩
 case rest=>
  obtain⟨X,r,y,u,rfl,C⟩:=hcut;have aF:X<wc.heap.size:=(ZF.1 C.box).1;have aN:=C.low;have aX:=kC C.below k3 E;have B:Hid (lN n t w X s (Zs r y u) wc):=C;have aV:=C.below.size;clear C ag ah aj j0 j1 aK aL k0 k1 k3;go_wp2;go_loopw [21] (fun i wr=>∃(k:Nat)(v:Zv),k<=(Kd.kids t).length/\i=Zi Zk k/\lT X n (Kd.kids t) s (Zs r y u) wc k v wr) (fun i _=>(Kd.kids t).length-(intOf i).toNat);case atStart=>exact⟨0,Zs Zn 0 0,Nat.zero_le _,rfl,b8.refl _ _,B.out.box,[],[],World.ownsRow_nil _ _ _ _,rfl,⟨Own.nil _,fun j _ hp=>absurd hp (Nat.not_lt_zero _)⟩,by simp[b4]⟩
  case round=>
   obtain⟨k,v,hk,rfl,hL⟩:=hrel;obtain⟨xs,Ps,f,au,ap,aq⟩:=hL.row;obtain⟨G,H,rfl⟩:=mV f;have ad:=hL.near;have aW:=ad.size;have x0:wr.cell? ⟨X,0,Zn⟩=Zo (Zi Zk s):=by simp[World.cell?,hL.box]
   have x1:wr.cell? ⟨X,1,Zn⟩=Zo (Zs r y u):=by simp[World.cell?,hL.box]
   have x2:wr.cell? ⟨X,2,Zn⟩=Zo (Zs G k H):=by simp[World.cell?,hL.box]
   have HL:Hid (lT X n (Kd.kids t) s (Zs r y u) wc k (Zs G k H) wr):=hL;have HX:Hid (wr.ownsRow wc.heap.size 31 3 (Zs G k H) k xs):=f;have P:Hid (Ps.length=k/\pK (fun b=>wc.heap.size<=b/\b<wr.heap.size/\(Value.slice G k H).ownBlock≠Zo b) wr n (Kd.kids t) xs Ps/\Ps.flatten.length+k=b4 (fun x=>1+tX n x) ((Kd.kids t).take k)):=⟨au,ap,aq⟩;clear hL f au ap aq;by_cases F:k<(Kd.kids t).length
   ·obtain⟨kb,off,rfl,al,l⟩:=z (by intro h;rw[h]at F;simp at F);obtain⟨c,e0,hr⟩:=l k F;obtain⟨cb,rfl,-⟩:=id hr.ptr;have aR:=hB kb al;have A:∀b,S b->wr.heap[b]?=w.heap[b]?:=fun b R=>by have:=hB b R;rw[ad.block b om om];exact B.out.below.block b this
    have f0:wr.cell? ⟨kb,off+k,Zn⟩=Zo (Zp (Zo ⟨cb,0,Zn⟩)):=(World.cell?_of_block (w:=w) (w':=wr) (a:=⟨kb,off+k,Zn⟩) (A kb al)).trans e0;have HC:Hid (Calls prog 43 #[Zp (Zo ⟨cb,0,Zn⟩)] wr.drew (pO n (Kd.kids t)[k] wr.drew)):=hn S (Kd.kids t)[k] _ (d+1) wr.drew (hr.keep (w':=wr.drew) (fun b R=>A b R) (fun _ h=>h)) (fun b R=>by have:=hB b R;simp;omega) (ai.out k F).1 (ai.out k F).2;obtain⟨i0,an,ax,Z,ay⟩:=info_parts Tryz.info_kindO;have O:Hid (_/\_/\_/\_):=⟨an,ax,Z,ay⟩;have aG:X<wr.heap.size:=om;clear an ax Z ay z l e0 hr A;go_wp2_with fail;go_region_law (first
     | (refine step_append_lies _ (by rfl) (.tmp 26) (.tmp 29) 29 (by rfl) wc.heap.size 31 i0 _ 3 56 underlying29 O.out.1 O.out.2.1 O.out.2.2.1 O.out.2.2.2 rfl zC (Zs G k H) k xs (by rfl) (ar _) ⟨w2.heap.size,0,Zn⟩ 1 1 [Zi Zk u0,Zs ua ul uc,Zs ya yl yc] (by rfl) rfl (World.news_of_block (heap_alloc_new w2 _)) (by simp[Value.oneCell']) zC (by unfold maxLen;omega) om zE (w2.heap.size+1) zS ?_;intro g cap w3 L q V aO;have ac:=((q.block X zE (fun e=>by have:=fU HX.out _ e.symm;omega)).trans (Below.heap_alloc _ _ _ om)).trans J;have aB:w3.cell? ⟨X,2,Zn⟩=Zo (Zs G k H):=(by simp[World.cell?,ac]);have aC:w3.frozen? ⟨X,2,Zn⟩=false:=(by simp[World.frozen?,ac]))
     | (go_simp;go_at_call 43;refine HC.out.mono ?_;rintro e w2 ⟨m,g0,g1,g2,L3,L4,rfl,K,av,aw,ho,hl⟩;obtain⟨u0,ua,ul,uc,ya,yl,yc,rfl,rfl,rfl⟩:=K.shape;have aP:wr.heap.size<=w2.heap.size:=m.size;have J:=(m.block X (by simpa using aG)).trans HL.out.box;have ar:∀o,(w2.alloc o).ownsRow wc.heap.size 31 3 (Zs G k H) k xs:=(fun o=>(gh HX.out (fun g' aH=>m.block g' (by have:=fU HX.out g' aH;simp;omega))).alloc o);have aA:w2.cell? ⟨X,2,Zn⟩=Zo (Zs G k H):=(by simp[World.cell?,J]);have aM:(w2.alloc (Zc #[Zi Zk u0,Zs ua ul uc,Zs ya yl yc] 31)).cell? ⟨X,2,Zn⟩=Zo (Zs G k H):=(World.cell?_of_block (Below.heap_alloc _ _ _ (by show X<_;omega))).trans aA))
    all_goals
     have HF:Hid (lT X n (Kd.kids t) s (Zs r y u) wc (k+1) (Zs (Zo ⟨g,0,Zn⟩) (k+1) cap) (w3.setCell ⟨X,2,Zn⟩ (Zs (Zo ⟨g,0,Zn⟩) (k+1) cap))):=
      Du (W:=wr.drew) HL.out.near aF HL.out.box F HX.out P.out.1 P.out.2.1 P.out.2.2 rfl ⟨rfl,rfl,rfl⟩ m K av aw ho hl L q V
     clear L q V K m av aw ho hl ar aA aM aB aC ac J
     go_wp2
     go_roundw
     case rel=>exact⟨k+1,_,om,by go_num,HF.out⟩
     case measure=>simp[intOf];omega
   ·have ao:k=(Kd.kids t).length:=by omega
    have Y:wr.heap[w.heap.size]?=Zo (Zc #[Zi Zk 0,Zs Zn 0 0,Zs Zn 0 0] 31 (0,0)):=(ad.block _ om om).trans B.out.zero;obtain⟨⟨r0,r1,r2⟩,f0,f1,f2⟩:=k7 Y;have HP:Hid (pO (n+1) t w (.returned (.agg #[Zi Zk s,Zs r y u,Zs G k H])) (iD wr w.heap.size 0 (Zi Zk s) (Zs r y u) (Zs G k H))):=by have h1:=HL.out;rw[ao]at h1 ⊢;exact F2 B.out HS.out aJ om aD.out om h1
    clear ao z HX P HL Y;go_wp2_with fail;refine bodyPost_ret (v:=.agg #[Zi Zk s,Zs r y u,Zs G k H]) (by simp[results,results43,go_sem,r0,r1,r2]) rfl ?_;exact HP.out
theorem uY:∀n,sJ n:=by
 intro n;induction n with
 | zero=>intro S t v d w h;exact h.elim
 | succ n a=>exact tI n a
def pQ(m:Nat)(s:ZN):K (m+1):=(iZ (m+1) s).getD (⟨0,[],[]⟩:Kd (K m))
def Cb(m:Nat)(s:ZN):Bool:=(iZ (m+1) s).isSome
theorem mL{k:K (m+1)}(h:iZ (m+1) s=Zo k):pQ m s=k/\Cb m s=true:=by unfold pQ Cb;rw[h];exact⟨rfl,rfl⟩
theorem vo(h:iZ (m+1) s=Zn):pQ m s=(⟨0,[],[]⟩:Kd (K m))/\Cb m s=false:=by unfold pQ Cb;rw[h];exact⟨rfl,rfl⟩
theorem tO(h:¬s.size<=800):iZ n s=Zn:=by unfold iZ;rw[if_neg h]
theorem Gy(h:∀k,gd n s.data.toList≠Zo (k,[])):iZ n s=Zn:=by
 unfold iZ;split
 ·split;·next k hp=>exact absurd hp (h k)
  ·rfl
 ·rfl
theorem DZ{k:K n}(h:gd n s.data.toList=Zo (k,[]))(a:gF n k=false):iZ n s=Zn:=by
 unfold iZ;split;·rw[h];simp only[a,Bool.false_eq_true,if_false]
 ·rfl
theorem D0{k:K n}(b:s.size<=800)(h:gd n s.data.toList=Zo (k,[]))(a:gF n k=true):iZ n s=Zo k:=by unfold iZ;rw[if_pos b,h];simp only[a,if_true]
theorem zT(S:ZP)(w:Zw)(m:Nat):a8 S w (m+1) (⟨0,[],[]⟩:Kd (K m)) (Zi Zk 0) (Zs Zn 0 0) (Zs Zn 0 0):=
 ⟨rfl,rfl,⟨Zn,0,rfl,by simp[maxLen],fun s h=>(by cases h),fun h=>absurd rfl h⟩,⟨Zn,0,rfl,by simp[maxLen],fun h=>absurd rfl h⟩⟩
theorem It:∀(n:Nat)(t:K n)(d:Int),fM n t d=true->tX n t+2<=2*fR n t:=by
 intro n;induction n with
 | zero=>intro t d h;simp[fM]at h
 | succ n m=>
  intro t d e;have c:=e;simp only[fM,Bool.and_eq_true]at c;have b:fR (n+1) t=1+b4 (fun x=>fR n x) (Kd.kids t):=by simp only[fR]
  have k:(Kd.names t).length<=(Kd.kids t).length:=by
   by_cases j:Kd.sort t=5;·have:=(BW e j).1;omega
   ·rw[oe e j];simp
  have i:∀l:List (K n),(∀x,x∈l->fM n x (d+1)=true)->l.length+b4 (fun x=>1+tX n x) l<=2*b4 (fun x=>fR n x) l:=by
   intro l;induction l with
   | nil=>intro _;simp[b4]
   | cons a r g=>intro h;have o:=m a (d+1) (h a (List.mem_cons_self ..));have p:=g (fun x f=>h x (List.mem_cons_of_mem _ f));simp only[b4,List.length_cons];omega
  have:=i (Kd.kids t) (fun x f=>List.all_eq_true.1 c.2 _ f);rw[b];show (Kd.names t).length+b4 (fun x=>1+tX n x) (Kd.kids t)+2<=_;omega
end Go.Proofs.YtcfojmaccikgeaaGreatDoor
