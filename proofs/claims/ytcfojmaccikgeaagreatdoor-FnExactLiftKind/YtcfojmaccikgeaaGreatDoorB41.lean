import Derived.Test.YtcfojmaccikgeaaGreatDoorB2
import Derived.Laws.BitsAllLaws
import Derived.Deep.QuietTactic
import Derived.BigQuiet
import Derived.Test.YtcfojmaccikgeaaGreatDoorB17
import Derived.Deep.RegionLaw
import Derived.Deep.Cut
import Derived.Deep.CutRange
import Derived.WalkSmall
import Derived.LoopTactic
import Derived.Deep.AppendLies
import Derived.Deep.RegionHeldLaw
import Derived.Test.YtcfojmaccikgeaaGreatDoorB40
import Derived.Test.YtcfojmaccikgeaaGreatDoorB32
open Go.Value renaming slice→Zs,int→Zi,string→Zt
open Go.IntKind renaming i64→Zk
open Go.Obj renaming cells→Zc
open Option renaming none→Zn,some→Zo
open Go renaming World→Zw,Value→Zv
namespace Go.Proofs.YtcfojmaccikgeaaGreatDoor
open Go.RowKit Go.Proofs.Tryz
variable {w:Zw} {P:Program} {ops:Array Oper} {o:Oper} {a:Act} {Q:Exit->Act->Zw->Prop} {S:Nat->Prop} {ao:Option Addr} {n c m:Nat}
def pk:Nat->Nat
 | 0=>0
 | d+1=>9+8*pk d
theorem FE(S:Nat->Prop)(w:Zw)(m:Nat)(x:Int)(a:(Lit.int Zk x).wf=true):a8 S w (m+1) (⟨x,[],[]⟩:Kd (K m)) (Zi Zk x) (Zs Zn 0 0) (Zs Zn 0 0):=
 ⟨rfl,a,⟨Zn,0,rfl,by simp[maxLen],fun s h=>(by cases h),fun h=>absurd rfl h⟩,⟨Zn,0,rfl,by simp[maxLen],fun h=>absurd rfl h⟩⟩
theorem Tryz.info_strD:(prog.info? 9).map (fun i=>(i.zero,i.size,i.bytes))=Zo (Zo (Zt ⟨#[]⟩),1,16):=by kernel_rfl
theorem Tryz.info_kindD:(prog.info? 31).map (fun i=>(i.zero,i.size,i.bytes))=Zo (Zo (.agg #[Zi Zk 0,Zs Zn 0 0,Zs Zn 0 0]),3,56):=by kernel_rfl
def Fw(R X:Nat)(w wr:Zw)(j:Nat):Prop:=
 ∃(a:Int)(c:Zv),nQ R X w wr/\wr.heap[X]?=Zo (Zc #[Zi Zk a,Zs Zn 0 0,c] 31 (0,0))/\∀M,j+1<=M->∃k:K M,a8 (fun b=>w.heap.size<=b/\b<wr.heap.size) wr M k (Zi Zk a) (Zs Zn 0 0) c
theorem Fw.start{R X:Nat}(h:w.heap[X]?=Zo (Zc #[Zi Zk 3,Zs Zn 0 0,Zs Zn 0 0] 31 (0,0))):Fw R X w w 0:=
 ⟨3,_,nQ.refl _ _ _,h,fun M b=>by
  obtain⟨a,rfl⟩:∃a,M=a+1:=⟨M-1,om⟩
  exact⟨(⟨3,[],[]⟩:Kd (K a)),FE _ _ a 3 rfl⟩⟩
theorem pu{base E:Nat}{e:TypeId}{size:Nat}(b:w.heap[E]?=Zo (Zc #[] e (0,0)))(a:base<=E):w.ownsRow base e size (Zs (Zo ⟨E,0,Zn⟩) 0 0) 0 []:=
 ⟨zS,.inr ⟨E,0,#[],rfl,a,b,Nat.le_refl _,Nat.zero_le _,zS,zS⟩⟩
theorem xR (w:Zw) (t x:TypeId) (base:Nat) (e:TypeId) (i:TypeInfo) (z:Zv) (size b:Nat) (v:P.underlying t=Zo (.slice e)) (hi:P.info? e=Zo i) (J:i.zero=Zo z)
  (k:i.size=size) (s:i.bytes=b) (p:z.cells.size=size) (o:0<size)
  (E:Nat) (n:w.heap[E]?=Zo (Zc #[] e (0,0))) (D:base<=E) (r:Option Addr) (m c:Nat) (a:List Zv) (B:a.length=m*size) (f:0<m->∃ad,r=Zo ad/\∀j u,a[j]?=Zo u->w.cell? (ad.add j)=Zo u) (I:∀u∈a,u.oneCell'=true)
  (H:m<=maxLen) (d:m*b<=140737488355328) :
  ∃g cap l,(Builtin.append_ #[t,t] x #[Zs (Zo ⟨E,0,Zn⟩) 0 0,Zs r m c]).run P w=.ok (Zs (Zo ⟨g,0,Zn⟩) m cap) l /\
   l.ownsRow base e size (Zs (Zo ⟨g,0,Zn⟩) m cap) m a/\w.grownBy l (Zo E)/\(g=E∨g=w.heap.size)/\g<l.heap.size:=by
 have q:E<w.heap.size:=(Array.getElem?_eq_some_iff.1 n).1;rcases Nat.eq_zero_or_pos m with rfl|C;·have M:a=[]:=List.eq_nil_of_length_eq_zero (by simpa using B);subst M;refine⟨E,0,w,?_,pu n D,⟨rfl,rfl,rfl,Nat.le_refl _,fun _ _ _=>rfl⟩,.inl rfl,q⟩;cases r<;>simp[Builtin.append_,run_underlying v,sizeOf,typeInfo,hi,Builtin.lenOf,Builtin.firstCells,loadCells,loadCellsFrom,storeCells]
 ·obtain⟨ad,rfl,F⟩:=f C;obtain⟨g,cap,l,A,y,L,G,K⟩:=run_append_lies (P:=P) w t x base e i z size b v hi J k s p o (Zs (Zo ⟨E,0,Zn⟩) 0 0) 0 [] (pu n D) ad m c a B F I C om (by simpa using d) om w.heap.size rfl;rw[Nat.zero_add]at A y;refine⟨g,cap,l,A,y,L,G.imp (fun h=>?_) id,K⟩;simpa [Value.ownBlock] using h.symm
theorem yM (w:Zw) {rest:List Oper} (p:o.guard=Zn) (s x:Operand) (t:TypeId)
  (R:o.op=.call { callee:=.builtin .append,args:=#[s,x],argTypes:=#[t,t] })
  (base:Nat) (e:TypeId) (i:TypeInfo) (z:Zv) (size d:Nat) (D:P.underlying t=Zo (.slice e)) (hi:P.info? e=Zo i) (L:i.zero=Zo z)
  (l:i.size=size) (A:i.bytes=d) (r:z.cells.size=size) (q:0<size)
  (E:Nat) (T:a.eval s=Zs (Zo ⟨E,0,Zn⟩) 0 0) (B:w.heap[E]?=Zo (Zc #[] e (0,0))) (U:base<=E) (y:Option Addr) (m c:Nat) (b:List Zv) (G:a.eval x=Zs y m c) (N:b.length=m*size) (k:0<m->∃ad,y=Zo ad/\∀j u,b[j]?=Zo u->w.cell? (ad.add j)=Zo u) (J:∀u∈b,u.oneCell'=true)
  (v:m<=maxLen) (f:m*d<=140737488355328) (H:Nat) (C:w.heap.size=H)
  (h:∀g cap n,n.ownsRow base e size (Zs (Zo ⟨g,0,Zn⟩) m cap) m b->w.grownBy n (Zo E)->(g=E∨g=H)->g<n.heap.size->wpList P ops Q rest (a.put o.dst (Zs (Zo ⟨g,0,Zn⟩) m cap)) n):wpList P ops Q (o :: rest) a w:=by obtain⟨g,cap,n,M,I,S,F,O⟩:=xR (P:=P) w t o.type base e i z size d D hi L l A r q E B U y m c b N k J v f;refine wpList_plain p fun K hK=>?_;unfold Oper.wp execOp;simp only[R,resolve,invoke,builtin,Sem.run_bind,Sem.run_pure,Result.andThen_ok,List.map_toArray,List.map_cons,List.map_nil,T,G,M];exact hK _ _ (h g cap n I S (by rw[<- C];exact F) O)
theorem vm {w':Zw} {l:List ByteArray} (y:l.length=n) (h:fL S w l (Zs ao n c)) (z:jy S w w') :
  (l.map Value.string).length=n*1/\(∀u∈l.map Value.string,u.oneCell'=true)/\(0<n->∃ad,ao=Zo ad/\∀j u,(l.map Value.string)[j]?=Zo u->w'.cell? (ad.add j)=Zo u):=by
 subst y;obtain⟨i,m,r,-,-,q⟩:=h;refine⟨zS,fun u d=>?_,fun o=>?_⟩;·obtain⟨x,-,rfl⟩:=List.mem_map.1 d;rfl
 ·obtain⟨b,off,A,t,f⟩:=q (fun e=>by rw[e]at o;simp at o);have k:ao=i:=by simpa using congrArg (fun v=>match v with|Value.slice a _ _=>a|_=>Zn) r
  refine⟨⟨b,off,Zn⟩,k.trans A,fun j u d=>?_⟩;obtain⟨g,rfl⟩:∃g:j<l.length,Value.string l[j]=u:=by
   rw[List.getElem?_map]at d;rcases hlj:l[j]? with _|s;·rw[hlj]at d;cases d
   ·rw[hlj]at d;obtain⟨g,e⟩:=List.getElem?_eq_some_iff.1 hlj;exact⟨g,by rw[e];simpa using d⟩
  rw[Addr.add_lit];exact (z.cell (p:=⟨b,off+j,Zn⟩) t).trans (f j g)
theorem lQ (w:Zw) {K:Act->Zw->Prop} {F:Prop} (p:o.guard=Zn) (s x:Operand) (t:TypeId)
  (T:o.op=.call { callee:=.builtin .append,args:=#[s,x],argTypes:=#[t,t] })
  (base:Nat) (e:TypeId) (i:TypeInfo) (z:Zv) (size d:Nat) (D:P.underlying t=Zo (.slice e)) (hi:P.info? e=Zo i) (M:i.zero=Zo z)
  (l:i.size=size) (A:i.bytes=d) (r:z.cells.size=size) (q:0<size)
  (E:Nat) (V:a.eval s=Zs (Zo ⟨E,0,Zn⟩) 0 0) (B:w.heap[E]?=Zo (Zc #[] e (0,0))) (W:base<=E) (y:Option Addr) (m c:Nat) (b:List Zv) (I:a.eval x=Zs y m c) (R:b.length=m*size) (k:0<m->∃ad,y=Zo ad/\∀j u,b[j]?=Zo u->w.cell? (ad.add j)=Zo u) (L:∀u∈b,u.oneCell'=true)
  (v:m<=maxLen) (f:m*d<=140737488355328) (H:Nat) (C:w.heap.size=H)
  (h:∀g cap n,n.ownsRow base e size (Zs (Zo ⟨g,0,Zn⟩) m cap) m b->w.grownBy n (Zo E)->(g=E∨g=H)->g<n.heap.size->K (a.put o.dst (Zs (Zo ⟨g,0,Zn⟩) m cap)) n) :
  if Region.wanted o (yielded ops a.tmps)=true then Oper.wp P o a w K Q else F:=by
 have O:Region.wanted o (yielded ops a.tmps)=true:=by simp[Region.wanted,p]
 rw[if_pos O];obtain⟨g,cap,n,N,J,U,G,S⟩:=xR (P:=P) w t o.type base e i z size d D hi M l A r q E B W y m c b R k L v f;unfold Oper.wp execOp;simp only[T,resolve,invoke,builtin,Sem.run_bind,Sem.run_pure,Result.andThen_ok,List.map_toArray,List.map_cons,List.map_nil,V,I,N];exact h g cap n J U (by rw[<- C];exact G) S
set_option maxRecDepth 100000
set_option maxHeartbeats 16000000
theorem Tryz.info_varD:(prog.info? 70).map (fun i=>(i.zero,i.size,i.bytes))=Zo (Zo (.agg #[Zt ⟨#[]⟩,Zi Zk 0,Zs Zn 0 0,Zs Zn 0 0]),4,72):=by kernel_rfl
theorem DM {l:List (ByteArray × K m)} (L:l.length=n) (h:gM S w m l (Zs ao n c)) :
  ∃k:List Zv,k.length=n*4/\(∀u∈k,u.oneCell'=true)/\(∀B,jy S w B->0<n->∃ad,ao=Zo ad/\∀j u,k[j]?=Zo u->B.cell? (ad.add j)=Zo u) /\
   ∀j (h:j<l.length),∃c0 c1 c2,(k[j*4]?=Zo (Zt l[j].1)/\k[j*4+1]?=Zo c0/\k[j*4+2]?=Zo c1/\k[j*4+3]?=Zo c2)/\l[j].1.size<=maxLen/\a8 S w m l[j].2 c0 c1 c2:=by
 subst L;obtain⟨z,D,H,-,G⟩:=h;by_cases o:l=[]
 ·subst o;refine⟨[],zS,fun u d=>?_,fun _ _ h=>?_,fun j f=>?_⟩;·cases d
  ·exact absurd h zS
  ·exact absurd f zS
 obtain⟨b,off,N,I,g⟩:=G o;have A:ao=z:=by simpa using congrArg (fun v=>match v with|Value.slice a _ _=>a|_=>Zn) H
 have i:∀j,j<l.length*4->∃u,w.cell? ⟨b,off+j,Zn⟩=Zo u/\u.oneCell'=true:=fun j f=>by
  obtain⟨c0,c1,c2,e,t,C,x,-,y⟩:=g (j / 4) om;obtain⟨_,_,_,_,_,_,_,rfl,rfl,rfl⟩:=y.shape;have q:j % 4=0∨j % 4=1∨j % 4=2∨j % 4=3:=om;rcases q with q|q|q|q;·rw[show off+j=off+j / 4*4 by omega];exact⟨_,e,rfl⟩
  ·rw[show off+j=off+j / 4*4+1 by omega];exact⟨_,t,rfl⟩
  ·rw[show off+j=off+j / 4*4+2 by omega];exact⟨_,C,rfl⟩
  ·rw[show off+j=off+j / 4*4+3 by omega];exact⟨_,x,rfl⟩
 have E:∀j u,((List.range (l.length*4)).map fun j=>(w.cell? ⟨b,off+j,Zn⟩).getD (Zs Zn 0 0))[j]?=Zo u->j<l.length*4/\w.cell? ⟨b,off+j,Zn⟩=Zo u:=fun j u d=>by
  rw[List.getElem?_map]at d;by_cases f:j<l.length*4;·rw[List.getElem?_range f]at d;obtain⟨v,r,-⟩:=i j f;refine⟨f,?_⟩;simp only[Option.map_some,r,Option.getD_some]at d;rw[r,<- d]
  ·rw[List.getElem?_eq_none (by simpa using f)]at d;cases d
 have s:∀j u,j<l.length*4->w.cell? ⟨b,off+j,Zn⟩=Zo u->((List.range (l.length*4)).map fun j=>(w.cell? ⟨b,off+j,Zn⟩).getD (Zs Zn 0 0))[j]?=Zo u:=fun j u f d=>by rw[List.getElem?_map,List.getElem?_range f];simp[d]
 refine⟨(List.range (l.length*4)).map fun j=>(w.cell? ⟨b,off+j,Zn⟩).getD (Zs Zn 0 0),zS,fun u d=>?_,fun B O _=>⟨⟨b,off,Zn⟩,A.trans N,fun j u d=>?_⟩,fun j f=>?_⟩
 ·obtain⟨j,f,e⟩:=List.getElem_of_mem d;have F:=E j u (by rw[List.getElem?_eq_getElem f,e]);obtain⟨v,r,M⟩:=i j F.1;have:=F.2;rw[r]at this;cases this
  exact M
 ·obtain⟨f,d⟩:=E j u d;rw[Addr.add_lit];exact (O.cell (p:=⟨b,off+j,Zn⟩) I).trans d
 ·obtain⟨c0,c1,c2,e,t,C,x,J,y⟩:=g j f;exact⟨c0,c1,c2,⟨s _ _ om e,s _ _ om t,s _ _ om C,s _ _ om x⟩,J,y⟩
theorem ES {V:Zw} {l:List (ByteArray × K m)} {x:ByteArray} {k:K m} {s r q:Zv} {xs:List Zv} {g cap:Nat} (R:Bd S w) (Y:Bw w V) (J:l.length=n) (hn:n<=3000000) (P:x.size<=maxLen) (U:a8 S w m k s r q)
  (f:V.ownsRow w.heap.size 70 4 (Zs (Zo ⟨g,0,Zn⟩) (n+1) cap) (n+1) (xs++[Zt x,s,r,q])) (I:xs.length=n*4)
  (B:∀j (h:j<l.length),∃c0 c1 c2,(xs[j*4]?=Zo (Zt l[j].1)/\xs[j*4+1]?=Zo c0/\xs[j*4+2]?=Zo c1/\xs[j*4+3]?=Zo c2)/\l[j].1.size<=maxLen/\a8 S w m l[j].2 c0 c1 c2) :
  gM (Ov S w.heap.size Zn V) V m (l++[(x,k)]) (Zs (Zo ⟨g,0,Zn⟩) (n+1) cap):=by
 have C:=kw f g rfl;have c:∀ {t:K m} {c0 c1 c2:Zv},a8 S w m t c0 c1 c2->a8 (Ov S w.heap.size Zn V) V m t c0 c1 c2:=fun h=>h.keep (a6 Y R) fun b F=>.inl F;rcases f.2 with ⟨u,Z⟩|⟨L,H,E,u,F,M,O,hm,hz,N⟩;·cases u
 ·have G:g=L:=by simpa using congrArg (fun v=>match v with|Value.slice (Zo a) _ _=>a.block|_=>0) u
  subst G;have p:∀j v,(xs++[Zt x,s,r,q])[j]?=Zo v->j<(n+1)*4->V.cell? ⟨g,0+j,Zn⟩=Zo v:=fun j v u hj=>by rw[cell_of_row V g (0+j) E _ _ M];rw[<- N,List.getElem?_take_of_lt om]at u;simpa using u
  refine⟨_,_,by rw[List.length_append,J];rfl,by rw[List.length_append,J];show n+1<=_;unfold maxLen;omega,fun _=>⟨g,0,rfl,.inr ⟨F,C.2,zS⟩,fun i hi=>?_⟩⟩;by_cases y:i<l.length
  ·obtain⟨c0,c1,c2,⟨e,Q,X,T⟩,A,D⟩:=B i y;rw[List.getElem_append_left y];have d:∀o v,o<4->xs[i*4+o]?=Zo v->(xs++[Zt x,s,r,q])[i*4+o]?=Zo v:=fun o v W h=>by rw[List.getElem?_append_left om];exact h
   exact⟨c0,c1,c2,p _ _ (d 0 _ om e) om,p _ _ (d 1 _ om Q) om,p _ _ (d 2 _ om X) om,p _ _ (d 3 _ om T) om,A,c D⟩
  ·have z:i=l.length:=by simp at hi;omega
   subst z;have e:(l++[(x,k)])[l.length]'hi=(x,k):=zS;rw[e];have d:∀o v,o<4->[Value.string x,s,r,q][o]?=Zo v->(xs++[Zt x,s,r,q])[l.length*4+o]?=Zo v:=fun o v W h=>by rw[List.getElem?_append_right om,show l.length*4+o-xs.length=o by omega];exact h
   exact⟨s,r,q,p _ _ (d 0 _ om rfl) om,p _ _ (d 1 _ om rfl) om,p _ _ (d 2 _ om rfl) om,p _ _ (d 3 _ om rfl) om,P,c U⟩
def jr(S:Nat->Prop)(m:Nat)(l:List (ByteArray×K m))(w:Zw)(e:Ending)(w':Zw):Prop:=
 Bw w w' /\ ∃v,e=.returned v/\gM (Ov S w.heap.size Zn w') w' m l v
theorem rk (m:Nat) (S:Nat->Prop) (l:List (ByteArray × K m)) (v:Zv) (x:ByteArray) (k:K m) (c0 c1 c2:Zv) (w:Zw) (hv:gM S w m l v) (hk:a8 S w m k c0 c1 c2) (hB:Bd S w) (hn:l.length<=3000000) (hx:x.size<=maxLen) :
  Calls prog 100 #[v,Zt x,.agg #[c0,c1,c2]] w (jr S m (l++[(x,k)]) w):=by
 obtain⟨p,s,t,A,r,y,z,rfl,rfl,rfl⟩:=hk.shape;obtain⟨ao,N,rfl,-,-⟩:=id hv;obtain⟨n,T⟩:∃n,l.length=n:=⟨_,rfl⟩;rw[T]at hv hn ⊢;obtain⟨R,ac,am,al,ap⟩:=DM T hv;obtain⟨W,hW⟩:=iw (w.alloc (Zc #[Zi Zk p,Zs s t A,Zs r y z] 31));have M:Bw w W:=by rw[hW];exact gF _ _
 have Q:=jX.new w (Zi Zk p) (Zs s t A) (Zs r y z) 31;rw[<- hW]at Q;have ar:w.heap.size+1<=W.heap.size:=by rw[hW];simp
 obtain⟨z0,z1,z2⟩:=id Q;obtain⟨J,ah,ai,ag,aj⟩:=info_parts Tryz.info_varD;have h:Hid (_/\_/\_/\_):=⟨ah,ai,ag,aj⟩;have X:Hid (∀V,Bw W V->(0<n->∃ad,ao=Zo ad/\∀j u,R[j]?=Zo u->V.cell? (ad.add j)=Zo u)):=fun V hV=>al V (a6 (M.trans (hV.mono M.size)) hB);have Z:=a7 am;have af:=a7 ac;have O:Hid (∀(V:Zw)(g cap:Nat),Bw W V->V.ownsRow w.heap.size 70 4 (Zs (Zo ⟨g,0,Zn⟩) (n+1) cap) (n+1) (R++[Zt x,Zi Zk p,Zs s t A,Zs r y z])->jr S m (l++[(x,k)]) w (.returned (Zs (Zo ⟨g,0,Zn⟩) (n+1) cap)) V):=fun V g cap hV f=>by have h2:=M.trans (hV.mono M.size);exact⟨h2,_,rfl,ES hB h2 T hn hx hk f ac ap⟩
 have P:Hid (∀V,Bw W V->V.cell? ⟨w.heap.size,0,Zn⟩=Zo (Zi Zk p)/\V.cell? ⟨w.heap.size,1,Zn⟩=Zo (Zs s t A)/\V.cell? ⟨w.heap.size,2,Zn⟩=Zo (Zs r y z)):=fun V hV=>by have:=Q.keep hV;exact⟨this.c0,this.c1,this.c2⟩
 have ab:Bw W W.drew:=(Below.refl _ _).drew;clear ah ai ag aj hv hk hB al ap ac am M Q T hx;go_in;go_wp2_with fail;rw[<- hW];clear hW;refine wp_region_held_drew (S:=(fun w'=>w'.cell? ⟨w.heap.size,0,Zn⟩=Zo (Zi Zk p)/\w'.cell? ⟨w.heap.size,1,Zn⟩=Zo (Zs s t A)/\w'.cell? ⟨w.heap.size,2,Zn⟩=Zo (Zs r y z))) zK (by exact⟨z0,z1,z2⟩) (fun hHeld=>?_);refine tk 1 ?_;refine tk 3 ?_;refine tk 4 ?_;refine tk 5 ?_;refine wpAnyH_ready (rs:=[0,6]) zK zS ?_;refine AllReadyH.cons rfl (fun K hK=>?_) (AllReadyH.cons rfl (fun K hK=>?_) AllReadyH.nil)
 ·go_simp;refine hK.out _ _ (P.out _ (kR ab)) (fun hHeld=>?_);clear hK K;obtain⟨o,i⟩:∃V,V=(W.alloc (Zc #[] 70)).drew:=⟨_,rfl⟩;rw[<- i];have Y:Bw W o:=by rw[i];exact kR ab
  have eA:o.heap[W.heap.size]?=Zo (Zc #[] 70 (0,0)):=by rw[i];exact heap_alloc_new W _
  have sA:W.heap.size+1<=o.heap.size:=by rw[i];show _<=(W.alloc _).heap.size;simp
  clear i;refine wpAnyH_ready (rs:=[2,6]) zK zS ?_;refine AllReadyH.cons rfl (fun K hK=>?_) (AllReadyH.cons rfl (fun K hK=>?_) AllReadyH.nil)
  ·refine lQ o (by rfl) (.tmp 7) (.tmp 8) 36 (by rfl) w.heap.size 70 J _ 4 72 underlying36 h.out.1 h.out.2.1 h.out.2.2.1 h.out.2.2.2 rfl zC (W.heap.size) (by rfl) eA om ao n N R (by rfl) af.out (X.out _ Y) Z.out (by unfold maxLen;omega) om o.heap.size rfl ?_;intro g cap H f a L aq;have C:Bw W H:=Y.grown a om (fun q I=>by cases I;omega);have an:W.heap.size+1<=H.heap.size:=by have:=a.size;omega
   have ak:W.heap.size<=g:=om;refine hK.out _ _ (P.out _ C) (fun hHeld=>?_);clear hK K a L;refine iT 6 fun K hK=>?_;go_simp;have e:=kh C (Zc #[Zt x,Zi Zk p,Zs s t A,Zs r y z] 70);refine hK.out _ _ (P.out _ e) (fun hHeld=>?_);clear hK K;obtain⟨D,c⟩:∃V,V=H.alloc (Zc #[Zt x,Zi Zk p,Zs s t A,Zs r y z] 70):=⟨_,rfl⟩;rw[<- c];rw[<- c]at e;have eB:D.heap[H.heap.size]?=Zo (Zc #[Zt x,Zi Zk p,Zs s t A,Zs r y z] 70 (0,0)):=by rw[c];exact heap_alloc_new H _
   have oB:D.ownsRow w.heap.size 70 4 (Zs (Zo ⟨g,0,Zn⟩) n cap) n R:=by rw[c];exact f.alloc _
   have sB:H.heap.size<=D.heap.size:=by rw[c];simp
   clear c f;refine iT 7 fun K hK=>?_;refine step_append_lies D (by rfl) (.tmp 9) (.tmp 13) 36 (by rfl) w.heap.size 70 J _ 4 72 underlying36 h.out.1 h.out.2.1 h.out.2.2.1 h.out.2.2.2 rfl zC (Zs (Zo ⟨g,0,Zn⟩) n cap) n R (by rfl) oB ⟨H.heap.size,0,Zn⟩ 1 1 [Zt x,Zi Zk p,Zs s t A,Zs r y z] (by rfl) rfl (World.news_of_block eB) (by simp[Value.oneCell']) zC (by unfold maxLen;omega) om om D.heap.size rfl ?_;intro g2 E U d b B G;have F:Bw W U:=e.grown b om (fun q I=>by have I:g=q:=(by simpa [Value.ownBlock] using I);omega);refine hK.out _ _ (P.out _ F) (fun hHeld=>?_);clear hK K;have HF:=Lib.hid (O.out U g2 E F d);clear d b B G;refine tk 8 ?_;refine wpAnyH_done zK ?_ _;go_simp;go_wp2;go_ret;exact HF.out
  ·go_simp;have e:=kh Y (Zc #[Zt x,Zi Zk p,Zs s t A,Zs r y z] 70);refine hK.out _ _ (P.out _ e) (fun hHeld=>?_);clear hK K;obtain⟨D,c⟩:∃V,V=o.alloc (Zc #[Zt x,Zi Zk p,Zs s t A,Zs r y z] 70):=⟨_,rfl⟩;rw[<- c];rw[<- c]at e;have eO:D.heap[o.heap.size]?=Zo (Zc #[Zt x,Zi Zk p,Zs s t A,Zs r y z] 70 (0,0)):=by rw[c];exact heap_alloc_new o _
   have eE:D.heap[W.heap.size]?=Zo (Zc #[] 70 (0,0)):=by rw[c,Below.heap_alloc _ _ _ om];exact eA
   have sB:o.heap.size+1<=D.heap.size:=by rw[c];simp
   clear c;refine iT 2 fun K hK=>?_;refine lQ D (by rfl) (.tmp 7) (.tmp 8) 36 (by rfl) w.heap.size 70 J _ 4 72 underlying36 h.out.1 h.out.2.1 h.out.2.2.1 h.out.2.2.2 rfl zC (W.heap.size) (by rfl) eE om ao n N R (by rfl) af.out (X.out _ e) Z.out (by unfold maxLen;omega) om D.heap.size rfl ?_;intro g cap H f a L aq;have C:Bw W H:=e.grown a om (fun q I=>by cases I;omega);have an:W.heap.size+1<=H.heap.size:=by have:=a.size;omega
   have ak:W.heap.size<=g:=om;have aa:=(a.block o.heap.size om zE).trans eO;refine hK.out _ _ (P.out _ C) (fun hHeld=>?_);clear hK K a L;refine iT 7 fun K hK=>?_;refine step_append_lies H (by rfl) (.tmp 9) (.tmp 13) 36 (by rfl) w.heap.size 70 J _ 4 72 underlying36 h.out.1 h.out.2.1 h.out.2.2.1 h.out.2.2.2 rfl zC (Zs (Zo ⟨g,0,Zn⟩) n cap) n R (by rfl) f ⟨o.heap.size,0,Zn⟩ 1 1 [Zt x,Zi Zk p,Zs s t A,Zs r y z] (by rfl) rfl (World.news_of_block aa) (by simp[Value.oneCell']) zC (by unfold maxLen;omega) om om H.heap.size rfl ?_;intro g2 E U d b B G;have F:Bw W U:=C.grown b om (fun q I=>by have I:g=q:=(by simpa [Value.ownBlock] using I);omega);refine hK.out _ _ (P.out _ F) (fun hHeld=>?_);clear hK K;have HF:=Lib.hid (O.out U g2 E F d);clear d b B G;refine tk 8 ?_;refine wpAnyH_done zK ?_ _;go_simp;go_wp2;go_ret;exact HF.out
 ·go_simp;have ae:Bw W (W.alloc (Zc #[Zt x,Zi Zk p,Zs s t A,Zs r y z] 70)).drew:=kR ab;refine hK.out _ _ (P.out _ ae) (fun hHeld=>?_);clear hK K;obtain⟨o,i⟩:∃V,V=(W.alloc (Zc #[Zt x,Zi Zk p,Zs s t A,Zs r y z] 70)).drew:=⟨_,rfl⟩;rw[<- i];rw[<- i]at ae;have eA:o.heap[W.heap.size]?=Zo (Zc #[Zt x,Zi Zk p,Zs s t A,Zs r y z] 70 (0,0)):=by rw[i];exact heap_alloc_new W _
  have sA:W.heap.size+1<=o.heap.size:=by rw[i];show _<=(W.alloc _).heap.size;simp
  clear i;refine iT 0 fun K hK=>?_;go_simp;have e:=kh ae (Zc #[] 70);refine hK.out _ _ (P.out _ e) (fun hHeld=>?_);clear hK K;obtain⟨D,c⟩:∃V,V=o.alloc (Zc #[] 70):=⟨_,rfl⟩;rw[<- c];rw[<- c]at e;have eE:D.heap[o.heap.size]?=Zo (Zc #[] 70 (0,0)):=by rw[c];exact heap_alloc_new o _
  have eO:D.heap[W.heap.size]?=Zo (Zc #[Zt x,Zi Zk p,Zs s t A,Zs r y z] 70 (0,0)):=by rw[c,Below.heap_alloc _ _ _ om];exact eA
  have sB:o.heap.size+1<=D.heap.size:=by rw[c];simp
  clear c;refine iT 2 fun K hK=>?_;refine lQ D (by rfl) (.tmp 7) (.tmp 8) 36 (by rfl) w.heap.size 70 J _ 4 72 underlying36 h.out.1 h.out.2.1 h.out.2.2.1 h.out.2.2.2 rfl zC (o.heap.size) (by rfl) eE om ao n N R (by rfl) af.out (X.out _ e) Z.out (by unfold maxLen;omega) om D.heap.size rfl ?_;intro g cap H f a L aq;have C:Bw W H:=e.grown a om (fun q I=>by cases I;omega);have an:W.heap.size+1<=H.heap.size:=by have:=a.size;omega
  have ak:W.heap.size<=g:=om;have aa:=(a.block W.heap.size om zE).trans eO;refine hK.out _ _ (P.out _ C) (fun hHeld=>?_);clear hK K a L;refine iT 7 fun K hK=>?_;refine step_append_lies H (by rfl) (.tmp 9) (.tmp 13) 36 (by rfl) w.heap.size 70 J _ 4 72 underlying36 h.out.1 h.out.2.1 h.out.2.2.1 h.out.2.2.2 rfl zC (Zs (Zo ⟨g,0,Zn⟩) n cap) n R (by rfl) f ⟨W.heap.size,0,Zn⟩ 1 1 [Zt x,Zi Zk p,Zs s t A,Zs r y z] (by rfl) rfl (World.news_of_block aa) (by simp[Value.oneCell']) zC (by unfold maxLen;omega) om om H.heap.size rfl ?_;intro g2 E U d b B G;have F:Bw W U:=C.grown b om (fun q I=>by have I:g=q:=(by simpa [Value.ownBlock] using I);omega);refine hK.out _ _ (P.out _ F) (fun hHeld=>?_);clear hK K;have HF:=Lib.hid (O.out U g2 E F d);clear d b B G;refine tk 8 ?_;refine wpAnyH_done zK ?_ _;go_simp;go_wp2;go_ret;exact HF.out
end Go.Proofs.YtcfojmaccikgeaaGreatDoor
