import Derived.Deep.RegionHeldLaw
import Derived.Test.YtcfojmaccikgeaaGreatDoorB30
open Go.Value renaming slice→Zs,int→Zi,string→Zt
open Go.IntKind renaming i64→Zk
open Go.Obj renaming cells→Zc
open Option renaming none→Zn,some→Zo
open Go renaming World→Zw,Value→Zv
namespace Go.Proofs.YtcfojmaccikgeaaGreatDoor
open Go.RowKit Go.Proofs.Tryz
variable {m n c:Nat} {w:Zw} {P:Program} {ops:Array Oper} {o:Oper} {a:Act} {Q:Exit->Act->Zw->Prop} {S:ZP} {ao:ZO}
def Hf:(m:Nat)->K m->ZP
 | 0,_,_=>False
 | m+1,t,d=>1<=d/\(Kd.names t).length<=1000/\(∀s,s∈Kd.names t->s.size<=10000)/\(Kd.kids t).length<=1000/\∀k,k∈Kd.kids t->Hf m k (d-1)
theorem Hf.one{x:Int}{d:Nat}{k:K m}(h:Hf m k d):Hf (m+1) (⟨x,[],[k]⟩:Kd (K m)) (d+1):=⟨om,zS,fun s h=>(by cases h),zS,fun y a=>(by have e:y=k:=(by simpa using a);rw[e];simpa using h)⟩
def pk:Nat->Nat
 | 0=>0
 | d+1=>9+8*pk d
theorem F4(S:ZP)(w:Zw)(m:Nat)(x:Int)(a:(Lit.int Zk x).wf=true):a8 S w (m+1) (⟨x,[],[]⟩:Kd (K m)) (Zi Zk x) (Zs Zn 0 0) (Zs Zn 0 0):=
 ⟨rfl,a,⟨Zn,0,rfl,by simp[maxLen],fun s h=>(by cases h),fun h=>absurd rfl h⟩,⟨Zn,0,rfl,by simp[maxLen],fun h=>absurd rfl h⟩⟩
theorem Tryz.info_strD:(prog.info? 9).map (fun i=>(i.zero,i.size,i.bytes))=Zo (Zo (Zt ⟨#[]⟩),1,16):=by kernel_rfl
theorem Tryz.info_kindD:(prog.info? 31).map (fun i=>(i.zero,i.size,i.bytes))=Zo (Zo (.agg #[Zi Zk 0,Zs Zn 0 0,Zs Zn 0 0]),3,56):=by kernel_rfl
def EN(R X:Nat)(w wr:Zw)(j:Nat):Prop:=
 ∃(c:Int)(a:Zv),nL R X w wr/\wr.heap[X]?=Zo (Zc #[Zi Zk c,Zs Zn 0 0,a] 31 (0,0))/\∀M,j+1<=M->∃k:K M,a8 (fun b=>w.heap.size<=b/\b<wr.heap.size) wr M k (Zi Zk c) (Zs Zn 0 0) a
theorem EN.start{R X:Nat}(h:w.heap[X]?=Zo (Zc #[Zi Zk 3,Zs Zn 0 0,Zs Zn 0 0] 31 (0,0))):EN R X w w 0:=
 ⟨3,_,nL.refl _ _ _,h,fun M b=>by
  obtain⟨a,rfl⟩:∃a,M=a+1:=⟨M-1,om⟩
  exact⟨(⟨3,[],[]⟩:Kd (K a)),F4 _ _ a 3 rfl⟩⟩
theorem nr{base E:Nat}{e:TypeId}{size:Nat}(a:w.heap[E]?=Zo (Zc #[] e (0,0)))(b:base<=E):w.ownsRow base e size (Zs (Zo ⟨E,0,Zn⟩) 0 0) 0 []:=
 ⟨zS,.inr ⟨E,0,#[],rfl,b,a,Nat.le_refl _,Nat.zero_le _,zS,zS⟩⟩
theorem zn (w:Zw) (t F:TypeId) (base:Nat) (e:TypeId) (i:TypeInfo) (z:Zv) (size b:Nat) (D:P.underlying t=Zo (.slice e)) (hi:P.info? e=Zo i) (N:i.zero=Zo z)
  (k:i.size=size) (r:i.bytes=b) (v:z.cells.size=size) (s:0<size)
  (E:Nat) (p:w.heap[E]?=Zo (Zc #[] e (0,0))) (y:base<=E) (o:ZO) (m c:Nat) (a:List Zv) (A:a.length=m*size) (f:0<m->∃n,o=Zo n/\∀j u,a[j]?=Zo u->w.cell? (n.add j)=Zo u) (G:∀u∈a,u.oneCell'=true)
  (K:m<=maxLen) (d:m*b<=140737488355328) :
  ∃g cap l,(Builtin.append_ #[t,t] F #[Zs (Zo ⟨E,0,Zn⟩) 0 0,Zs o m c]).run P w=.ok (Zs (Zo ⟨g,0,Zn⟩) m cap) l /\
   l.ownsRow base e size (Zs (Zo ⟨g,0,Zn⟩) m cap) m a/\w.grownBy l (Zo E)/\(g=E∨g=w.heap.size)/\g<l.heap.size:=by
 have q:E<w.heap.size:=(Array.getElem?_eq_some_iff.1 p).1;rcases Nat.eq_zero_or_pos m with rfl|B;·have M:a=[]:=List.eq_nil_of_length_eq_zero (by simpa using A);subst M;refine⟨E,0,w,?_,nr p y,⟨rfl,rfl,rfl,Nat.le_refl _,fun _ _ _=>rfl⟩,.inl rfl,q⟩;cases o<;>simp[Builtin.append_,run_underlying D,sizeOf,typeInfo,hi,Builtin.lenOf,Builtin.firstCells,loadCells,loadCellsFrom,storeCells]
 ·obtain⟨n,rfl,L⟩:=f B;obtain⟨g,cap,l,C,x,H,I,J⟩:=run_append_lies (P:=P) w t F base e i z size b D hi N k r v s (Zs (Zo ⟨E,0,Zn⟩) 0 0) 0 [] (nr p y) n m c a A L G B om (by simpa using d) om w.heap.size rfl;rw[Nat.zero_add]at C x;refine⟨g,cap,l,C,x,H,I.imp (fun h=>?_) id,J⟩;simpa [Value.ownBlock] using h.symm
theorem zR (w:Zw) {rest:List Oper} (v:o.guard=Zn) (s x:Operand) (t:TypeId)
  (O:o.op=.call { callee:=.builtin .append,args:=#[s,x],argTypes:=#[t,t] })
  (base:Nat) (e:TypeId) (i:TypeInfo) (z:Zv) (size d:Nat) (T:P.underlying t=Zo (.slice e)) (hi:P.info? e=Zo i) (V:i.zero=Zo z)
  (l:i.size=size) (r:i.bytes=d) (A:z.cells.size=size) (y:0<size)
  (E:Nat) (S:a.eval s=Zs (Zo ⟨E,0,Zn⟩) 0 0) (J:w.heap[E]?=Zo (Zc #[] e (0,0))) (M:base<=E) (p:ZO) (m c:Nat) (b:List Zv) (U:a.eval x=Zs p m c) (N:b.length=m*size) (k:0<m->∃B,p=Zo B/\∀j u,b[j]?=Zo u->w.cell? (B.add j)=Zo u) (C:∀u∈b,u.oneCell'=true)
  (q:m<=maxLen) (f:m*d<=140737488355328) (H:Nat) (L:w.heap.size=H)
  (h:∀g cap n,n.ownsRow base e size (Zs (Zo ⟨g,0,Zn⟩) m cap) m b->w.grownBy n (Zo E)->(g=E∨g=H)->g<n.heap.size->wpList P ops Q rest (a.put o.dst (Zs (Zo ⟨g,0,Zn⟩) m cap)) n):wpList P ops Q (o :: rest) a w:=by obtain⟨g,cap,n,R,D,F,G,I⟩:=zn (P:=P) w t o.type base e i z size d T hi V l r A y E J M p m c b N k C q f;refine wpList_plain v fun K hK=>?_;unfold Oper.wp execOp;simp only[O,resolve,invoke,builtin,Sem.run_bind,Sem.run_pure,Result.andThen_ok,List.map_toArray,List.map_cons,List.map_nil,S,U,R];exact hK _ _ (h g cap n D F (by rw[<- L];exact G) I)
theorem Ea {w':Zw} {l:List ZN} (A:l.length=n) (h:fL S w l (Zs ao n c)) (B:jn S w w') :
  (l.map Value.string).length=n*1/\(∀u∈l.map Value.string,u.oneCell'=true)/\(0<n->∃m,ao=Zo m/\∀j u,(l.map Value.string)[j]?=Zo u->w'.cell? (m.add j)=Zo u):=by
 subst A;obtain⟨i,o,z,-,-,y⟩:=h;refine⟨zS,fun u f=>?_,fun q=>?_⟩;·obtain⟨x,-,rfl⟩:=List.mem_map.1 f;rfl
 ·obtain⟨b,off,t,r,d⟩:=y (fun e=>by rw[e]at q;simp at q);have k:ao=i:=by simpa using congrArg (fun v=>match v with|Value.slice a _ _=>a|_=>Zn) z
  refine⟨⟨b,off,Zn⟩,k.trans t,fun j u f=>?_⟩;obtain⟨g,rfl⟩:∃g:j<l.length,Value.string l[j]=u:=by
   rw[List.getElem?_map]at f;rcases hlj:l[j]? with _|s;·rw[hlj]at f;cases f
   ·rw[hlj]at f;obtain⟨g,e⟩:=List.getElem?_eq_some_iff.1 hlj;exact⟨g,by rw[e];simpa using f⟩
  rw[Addr.add_lit];exact (B.cell (p:=⟨b,off+j,Zn⟩) r).trans (d j g)
theorem qW (w:Zw) {K:Act->Zw->Prop} {F:Prop} (v:o.guard=Zn) (s x:Operand) (t:TypeId)
  (R:o.op=.call { callee:=.builtin .append,args:=#[s,x],argTypes:=#[t,t] })
  (base:Nat) (e:TypeId) (i:TypeInfo) (z:Zv) (size d:Nat) (U:P.underlying t=Zo (.slice e)) (hi:P.info? e=Zo i) (X:i.zero=Zo z)
  (l:i.size=size) (r:i.bytes=d) (A:z.cells.size=size) (y:0<size)
  (E:Nat) (T:a.eval s=Zs (Zo ⟨E,0,Zn⟩) 0 0) (L:w.heap[E]?=Zo (Zc #[] e (0,0))) (N:base<=E) (p:ZO) (m c:Nat) (b:List Zv) (W:a.eval x=Zs p m c) (O:b.length=m*size) (k:0<m->∃B,p=Zo B/\∀j u,b[j]?=Zo u->w.cell? (B.add j)=Zo u) (C:∀u∈b,u.oneCell'=true)
  (q:m<=maxLen) (f:m*d<=140737488355328) (H:Nat) (M:w.heap.size=H)
  (h:∀g cap n,n.ownsRow base e size (Zs (Zo ⟨g,0,Zn⟩) m cap) m b->w.grownBy n (Zo E)->(g=E∨g=H)->g<n.heap.size->K (a.put o.dst (Zs (Zo ⟨g,0,Zn⟩) m cap)) n) :
  if Region.wanted o (yielded ops a.tmps)=true then Oper.wp P o a w K Q else F:=by
 have V:Region.wanted o (yielded ops a.tmps)=true:=by simp[Region.wanted,v]
 rw[if_pos V];obtain⟨g,cap,n,S,D,G,I,J⟩:=zn (P:=P) w t o.type base e i z size d U hi X l r A y E L N p m c b O k C q f;unfold Oper.wp execOp;simp only[R,resolve,invoke,builtin,Sem.run_bind,Sem.run_pure,Result.andThen_ok,List.map_toArray,List.map_cons,List.map_nil,T,W,S];exact h g cap n D G (by rw[<- M];exact I) J
set_option maxRecDepth 100000
set_option maxHeartbeats 16000000
theorem Tryz.info_varD:(prog.info? 70).map (fun i=>(i.zero,i.size,i.bytes))=Zo (Zo (.agg #[Zt ⟨#[]⟩,Zi Zk 0,Zs Zn 0 0,Zs Zn 0 0]),4,72):=by kernel_rfl
theorem Eo {l:List (ZN × K m)} (M:l.length=n) (h:jf S w m l (Zs ao n c)) :
  ∃k:List Zv,k.length=n*4/\(∀u∈k,u.oneCell'=true)/\(∀C,jn S w C->0<n->∃D,ao=Zo D/\∀j u,k[j]?=Zo u->C.cell? (D.add j)=Zo u) /\
   ∀j (h:j<l.length),∃c0 c1 c2,(k[j*4]?=Zo (Zt l[j].1)/\k[j*4+1]?=Zo c0/\k[j*4+2]?=Zo c1/\k[j*4+3]?=Zo c2)/\l[j].1.size<=maxLen/\a8 S w m l[j].2 c0 c1 c2:=by
 subst M;obtain⟨t,E,L,-,J⟩:=h;by_cases q:l=[]
 ·subst q;refine⟨[],zS,fun u d=>?_,fun _ _ h=>?_,fun j f=>?_⟩;·cases d
  ·exact absurd h zS
  ·exact absurd f zS
 obtain⟨b,off,I,H,g⟩:=J q;have A:ao=t:=by simpa using congrArg (fun v=>match v with|Value.slice a _ _=>a|_=>Zn) L
 have i:∀j,j<l.length*4->∃u,w.cell? ⟨b,off+j,Zn⟩=Zo u/\u.oneCell'=true:=fun j f=>by
  obtain⟨c0,c1,c2,e,x,y,z,-,B⟩:=g (j / 4) om;obtain⟨_,_,_,_,_,_,_,rfl,rfl,rfl⟩:=B.shape;have o:j % 4=0∨j % 4=1∨j % 4=2∨j % 4=3:=om;rcases o with o|o|o|o;·rw[show off+j=off+j / 4*4 by omega];exact⟨_,e,rfl⟩
  ·rw[show off+j=off+j / 4*4+1 by omega];exact⟨_,x,rfl⟩
  ·rw[show off+j=off+j / 4*4+2 by omega];exact⟨_,y,rfl⟩
  ·rw[show off+j=off+j / 4*4+3 by omega];exact⟨_,z,rfl⟩
 have G:∀j u,((List.range (l.length*4)).map fun j=>(w.cell? ⟨b,off+j,Zn⟩).getD (Zs Zn 0 0))[j]?=Zo u->j<l.length*4/\w.cell? ⟨b,off+j,Zn⟩=Zo u:=fun j u d=>by
  rw[List.getElem?_map]at d;by_cases f:j<l.length*4;·rw[List.getElem?_range f]at d;obtain⟨v,r,-⟩:=i j f;refine⟨f,?_⟩;simp only[Option.map_some,r,Option.getD_some]at d;rw[r,<- d]
  ·rw[List.getElem?_eq_none (by simpa using f)]at d;cases d
 have s:∀j u,j<l.length*4->w.cell? ⟨b,off+j,Zn⟩=Zo u->((List.range (l.length*4)).map fun j=>(w.cell? ⟨b,off+j,Zn⟩).getD (Zs Zn 0 0))[j]?=Zo u:=fun j u f d=>by rw[List.getElem?_map,List.getElem?_range f];simp[d]
 refine⟨(List.range (l.length*4)).map fun j=>(w.cell? ⟨b,off+j,Zn⟩).getD (Zs Zn 0 0),zS,fun u d=>?_,fun C O _=>⟨⟨b,off,Zn⟩,A.trans I,fun j u d=>?_⟩,fun j f=>?_⟩
 ·obtain⟨j,f,e⟩:=List.getElem_of_mem d;have F:=G j u (by rw[List.getElem?_eq_getElem f,e]);obtain⟨v,r,N⟩:=i j F.1;have:=F.2;rw[r]at this;cases this
  exact N
 ·obtain⟨f,d⟩:=G j u d;rw[Addr.add_lit];exact (O.cell (p:=⟨b,off+j,Zn⟩) H).trans d
 ·obtain⟨c0,c1,c2,e,x,y,z,P,B⟩:=g j f;exact⟨c0,c1,c2,⟨s _ _ om e,s _ _ om x,s _ _ om y,s _ _ om z⟩,P,B⟩
theorem Fj {V:Zw} {l:List (ZN × K m)} {x:ZN} {k:K m} {q r s:Zv} {xs:List Zv} {g cap:Nat} (P:Bd S w) (Q:Bw w V) (I:l.length=n) (hn:n<=3000000) (Y:x.size<=maxLen) (T:a8 S w m k q r s)
  (p:V.ownsRow w.heap.size 70 4 (Zs (Zo ⟨g,0,Zn⟩) (n+1) cap) (n+1) (xs++[Zt x,q,r,s])) (J:xs.length=n*4)
  (G:∀j (h:j<l.length),∃c0 c1 c2,(xs[j*4]?=Zo (Zt l[j].1)/\xs[j*4+1]?=Zo c0/\xs[j*4+2]?=Zo c1/\xs[j*4+3]?=Zo c2)/\l[j].1.size<=maxLen/\a8 S w m l[j].2 c0 c1 c2) :
  jf (Ov S w.heap.size Zn V) V m (l++[(x,k)]) (Zs (Zo ⟨g,0,Zn⟩) (n+1) cap):=by
 have E:=jD p g rfl;have c:∀ {t:K m} {c0 c1 c2:Zv},a8 S w m t c0 c1 c2->a8 (Ov S w.heap.size Zn V) V m t c0 c1 c2:=fun h=>h.keep (a6 Q P) fun b A=>.inl A;rcases p.2 with ⟨u,Z⟩|⟨O,H,z,u,A,R,U,hm,hz,X⟩;·cases u
 ·have B:g=O:=by simpa using congrArg (fun v=>match v with|Value.slice (Zo a) _ _=>a.block|_=>0) u
  subst B;have f:∀j v,(xs++[Zt x,q,r,s])[j]?=Zo v->j<(n+1)*4->V.cell? ⟨g,0+j,Zn⟩=Zo v:=fun j v u hj=>by rw[cell_of_row V g (0+j) z _ _ R];rw[<- X,List.getElem?_take_of_lt om]at u;simpa using u
  refine⟨_,_,by rw[List.length_append,I];rfl,by rw[List.length_append,I];show n+1<=_;unfold maxLen;omega,fun _=>⟨g,0,rfl,.inr ⟨A,E.2,zS⟩,fun i hi=>?_⟩⟩;by_cases y:i<l.length
  ·obtain⟨c0,c1,c2,⟨e,L,M,N⟩,F,D⟩:=G i y;rw[List.getElem_append_left y];have d:∀o v,o<4->xs[i*4+o]?=Zo v->(xs++[Zt x,q,r,s])[i*4+o]?=Zo v:=fun o v W h=>by rw[List.getElem?_append_left om];exact h
   exact⟨c0,c1,c2,f _ _ (d 0 _ om e) om,f _ _ (d 1 _ om L) om,f _ _ (d 2 _ om M) om,f _ _ (d 3 _ om N) om,F,c D⟩
  ·have C:i=l.length:=by simp at hi;omega
   subst C;have e:(l++[(x,k)])[l.length]'hi=(x,k):=zS;rw[e];have d:∀o v,o<4->[Value.string x,q,r,s][o]?=Zo v->(xs++[Zt x,q,r,s])[l.length*4+o]?=Zo v:=fun o v W h=>by rw[List.getElem?_append_right om,show l.length*4+o-xs.length=o by omega];exact h
   exact⟨q,r,s,f _ _ (d 0 _ om rfl) om,f _ _ (d 1 _ om rfl) om,f _ _ (d 2 _ om rfl) om,f _ _ (d 3 _ om rfl) om,Y,c T⟩
def jt(S:ZP)(m:Nat)(l:List (ZN×K m))(w:Zw)(e:Ending)(w':Zw):Prop:=
 Bw w w' /\ ∃v,e=.returned v/\jf (Ov S w.heap.size Zn w') w' m l v
theorem ru (m:Nat) (S:ZP) (l:List (ZN × K m)) (v:Zv) (x:ZN) (k:K m) (c0 c1 c2:Zv) (w:Zw) (hv:jf S w m l v) (hk:a8 S w m k c0 c1 c2) (hB:Bd S w) (hn:l.length<=3000000) (hx:x.size<=maxLen) :
  Calls prog 100 #[v,Zt x,.agg #[c0,c1,c2]] w (jt S m (l++[(x,k)]) w):=by
 obtain⟨p,r,t,s,y,A,z,rfl,rfl,rfl⟩:=hk.shape;obtain⟨ao,N,rfl,-,-⟩:=id hv;obtain⟨n,Q⟩:∃n,l.length=n:=⟨_,rfl⟩;rw[Q]at hv hn ⊢;obtain⟨T,af,ak,al,am⟩:=Eo Q hv;obtain⟨W,hW⟩:=ii (w.alloc (Zc #[Zi Zk p,Zs r t s,Zs y A z] 31));have P:Bw w W:=by rw[hW];exact gx _ _
 have R:=j8.new w (Zi Zk p) (Zs r t s) (Zs y A z) 31;rw[<- hW]at R;have ar:w.heap.size+1<=W.heap.size:=by rw[hW];simp
 obtain⟨z0,z1,z2⟩:=id R;obtain⟨J,ah,an,ap,aq⟩:=info_parts Tryz.info_varD;have h:Hid (_/\_/\_/\_):=⟨ah,an,ap,aq⟩;have Z:Hid (∀V,Bw W V->(0<n->∃ad,ao=Zo ad/\∀j u,T[j]?=Zo u->V.cell? (ad.add j)=Zo u)):=fun V hV=>al V (a6 (P.trans (hV.mono P.size)) hB);have X:=a7 ak;have Y:=a7 af;have M:Hid (∀(V:Zw)(g cap:Nat),Bw W V->V.ownsRow w.heap.size 70 4 (Zs (Zo ⟨g,0,Zn⟩) (n+1) cap) (n+1) (T++[Zt x,Zi Zk p,Zs r t s,Zs y A z])->jt S m (l++[(x,k)]) w (.returned (Zs (Zo ⟨g,0,Zn⟩) (n+1) cap)) V):=fun V g cap hV f=>by have h2:=P.trans (hV.mono P.size);exact⟨h2,_,rfl,Fj hB h2 Q hn hx hk f af am⟩
 have L:Hid (∀V,Bw W V->V.cell? ⟨w.heap.size,0,Zn⟩=Zo (Zi Zk p)/\V.cell? ⟨w.heap.size,1,Zn⟩=Zo (Zs r t s)/\V.cell? ⟨w.heap.size,2,Zn⟩=Zo (Zs y A z)):=fun V hV=>by have:=R.keep hV;exact⟨this.c0,this.c1,this.c2⟩
 have ae:Bw W W.drew:=(Below.refl _ _).drew;clear ah an ap aq hv hk hB al am af ak P R Q hx;go_in;go_wp2_with fail;rw[<- hW];clear hW;refine wp_region_held_drew (S:=(fun w'=>w'.cell? ⟨w.heap.size,0,Zn⟩=Zo (Zi Zk p)/\w'.cell? ⟨w.heap.size,1,Zn⟩=Zo (Zs r t s)/\w'.cell? ⟨w.heap.size,2,Zn⟩=Zo (Zs y A z))) zK (by exact⟨z0,z1,z2⟩) (fun hHeld=>?_);refine tk 1 ?_;refine tk 3 ?_;refine tk 4 ?_;refine tk 5 ?_;refine wpAnyH_ready (rs:=[0,6]) zK zS ?_;refine AllReadyH.cons rfl (fun K hK=>?_) (AllReadyH.cons rfl (fun K hK=>?_) AllReadyH.nil)
 ·go_simp;refine hK.out _ _ (L.out _ (qK ae)) (fun hHeld=>?_);clear hK K;obtain⟨o,i⟩:∃V,V=(W.alloc (Zc #[] 70)).drew:=⟨_,rfl⟩;rw[<- i];have ab:Bw W o:=by rw[i];exact qK ae
  have eA:o.heap[W.heap.size]?=Zo (Zc #[] 70 (0,0)):=by rw[i];exact heap_alloc_new W _
  have sA:W.heap.size+1<=o.heap.size:=by rw[i];show _<=(W.alloc _).heap.size;simp
  clear i;refine wpAnyH_ready (rs:=[2,6]) zK zS ?_;refine AllReadyH.cons rfl (fun K hK=>?_) (AllReadyH.cons rfl (fun K hK=>?_) AllReadyH.nil)
  ·refine qW o (by rfl) (.tmp 7) (.tmp 8) 36 (by rfl) w.heap.size 70 J _ 4 72 underlying36 h.out.1 h.out.2.1 h.out.2.2.1 h.out.2.2.2 rfl zC (W.heap.size) (by rfl) eA om ao n N T (by rfl) Y.out (Z.out _ ab) X.out (by unfold maxLen;omega) om o.heap.size rfl ?_;intro g cap H f a O ai;have E:Bw W H:=ab.grown a om (fun q I=>by cases I;omega);have aj:W.heap.size+1<=H.heap.size:=by have:=a.size;omega
   have ag:W.heap.size<=g:=om;refine hK.out _ _ (L.out _ E) (fun hHeld=>?_);clear hK K a O;refine i6 6 fun K hK=>?_;go_simp;have e:=jp E (Zc #[Zt x,Zi Zk p,Zs r t s,Zs y A z] 70);refine hK.out _ _ (L.out _ e) (fun hHeld=>?_);clear hK K;obtain⟨B,c⟩:∃V,V=H.alloc (Zc #[Zt x,Zi Zk p,Zs r t s,Zs y A z] 70):=⟨_,rfl⟩;rw[<- c];rw[<- c]at e;have eB:B.heap[H.heap.size]?=Zo (Zc #[Zt x,Zi Zk p,Zs r t s,Zs y A z] 70 (0,0)):=by rw[c];exact heap_alloc_new H _
   have oB:B.ownsRow w.heap.size 70 4 (Zs (Zo ⟨g,0,Zn⟩) n cap) n T:=by rw[c];exact f.alloc _
   have sB:H.heap.size<=B.heap.size:=by rw[c];simp
   clear c f;refine i6 7 fun K hK=>?_;refine step_append_lies B (by rfl) (.tmp 9) (.tmp 13) 36 (by rfl) w.heap.size 70 J _ 4 72 underlying36 h.out.1 h.out.2.1 h.out.2.2.1 h.out.2.2.2 rfl zC (Zs (Zo ⟨g,0,Zn⟩) n cap) n T (by rfl) oB ⟨H.heap.size,0,Zn⟩ 1 1 [Zt x,Zi Zk p,Zs r t s,Zs y A z] (by rfl) rfl (World.news_of_block eB) (by simp[Value.oneCell']) zC (by unfold maxLen;omega) om om B.heap.size rfl ?_;intro g2 C U d b D G;have F:Bw W U:=e.grown b om (fun q I=>by have I:g=q:=(by simpa [Value.ownBlock] using I);omega);refine hK.out _ _ (L.out _ F) (fun hHeld=>?_);clear hK K;have HF:=Lib.hid (M.out U g2 C F d);clear d b D G;refine tk 8 ?_;refine wpAnyH_done zK ?_ _;go_simp;go_wp2;go_ret;exact HF.out
  ·go_simp;have e:=jp ab (Zc #[Zt x,Zi Zk p,Zs r t s,Zs y A z] 70);refine hK.out _ _ (L.out _ e) (fun hHeld=>?_);clear hK K;obtain⟨B,c⟩:∃V,V=o.alloc (Zc #[Zt x,Zi Zk p,Zs r t s,Zs y A z] 70):=⟨_,rfl⟩;rw[<- c];rw[<- c]at e;have eO:B.heap[o.heap.size]?=Zo (Zc #[Zt x,Zi Zk p,Zs r t s,Zs y A z] 70 (0,0)):=by rw[c];exact heap_alloc_new o _
   have eE:B.heap[W.heap.size]?=Zo (Zc #[] 70 (0,0)):=by rw[c,Below.heap_alloc _ _ _ om];exact eA
   have sB:o.heap.size+1<=B.heap.size:=by rw[c];simp
   clear c;refine i6 2 fun K hK=>?_;refine qW B (by rfl) (.tmp 7) (.tmp 8) 36 (by rfl) w.heap.size 70 J _ 4 72 underlying36 h.out.1 h.out.2.1 h.out.2.2.1 h.out.2.2.2 rfl zC (W.heap.size) (by rfl) eE om ao n N T (by rfl) Y.out (Z.out _ e) X.out (by unfold maxLen;omega) om B.heap.size rfl ?_;intro g cap H f a O ai;have E:Bw W H:=e.grown a om (fun q I=>by cases I;omega);have aj:W.heap.size+1<=H.heap.size:=by have:=a.size;omega
   have ag:W.heap.size<=g:=om;have aa:=(a.block o.heap.size om zE).trans eO;refine hK.out _ _ (L.out _ E) (fun hHeld=>?_);clear hK K a O;refine i6 7 fun K hK=>?_;refine step_append_lies H (by rfl) (.tmp 9) (.tmp 13) 36 (by rfl) w.heap.size 70 J _ 4 72 underlying36 h.out.1 h.out.2.1 h.out.2.2.1 h.out.2.2.2 rfl zC (Zs (Zo ⟨g,0,Zn⟩) n cap) n T (by rfl) f ⟨o.heap.size,0,Zn⟩ 1 1 [Zt x,Zi Zk p,Zs r t s,Zs y A z] (by rfl) rfl (World.news_of_block aa) (by simp[Value.oneCell']) zC (by unfold maxLen;omega) om om H.heap.size rfl ?_;intro g2 C U d b D G;have F:Bw W U:=E.grown b om (fun q I=>by have I:g=q:=(by simpa [Value.ownBlock] using I);omega);refine hK.out _ _ (L.out _ F) (fun hHeld=>?_);clear hK K;have HF:=Lib.hid (M.out U g2 C F d);clear d b D G;refine tk 8 ?_;refine wpAnyH_done zK ?_ _;go_simp;go_wp2;go_ret;exact HF.out
 ·go_simp;have ac:Bw W (W.alloc (Zc #[Zt x,Zi Zk p,Zs r t s,Zs y A z] 70)).drew:=qK ae;refine hK.out _ _ (L.out _ ac) (fun hHeld=>?_);clear hK K;obtain⟨o,i⟩:∃V,V=(W.alloc (Zc #[Zt x,Zi Zk p,Zs r t s,Zs y A z] 70)).drew:=⟨_,rfl⟩;rw[<- i];rw[<- i]at ac;have eA:o.heap[W.heap.size]?=Zo (Zc #[Zt x,Zi Zk p,Zs r t s,Zs y A z] 70 (0,0)):=by rw[i];exact heap_alloc_new W _
  have sA:W.heap.size+1<=o.heap.size:=by rw[i];show _<=(W.alloc _).heap.size;simp
  clear i;refine i6 0 fun K hK=>?_;go_simp;have e:=jp ac (Zc #[] 70);refine hK.out _ _ (L.out _ e) (fun hHeld=>?_);clear hK K;obtain⟨B,c⟩:∃V,V=o.alloc (Zc #[] 70):=⟨_,rfl⟩;rw[<- c];rw[<- c]at e;have eE:B.heap[o.heap.size]?=Zo (Zc #[] 70 (0,0)):=by rw[c];exact heap_alloc_new o _
  have eO:B.heap[W.heap.size]?=Zo (Zc #[Zt x,Zi Zk p,Zs r t s,Zs y A z] 70 (0,0)):=by rw[c,Below.heap_alloc _ _ _ om];exact eA
  have sB:o.heap.size+1<=B.heap.size:=by rw[c];simp
  clear c;refine i6 2 fun K hK=>?_;refine qW B (by rfl) (.tmp 7) (.tmp 8) 36 (by rfl) w.heap.size 70 J _ 4 72 underlying36 h.out.1 h.out.2.1 h.out.2.2.1 h.out.2.2.2 rfl zC (o.heap.size) (by rfl) eE om ao n N T (by rfl) Y.out (Z.out _ e) X.out (by unfold maxLen;omega) om B.heap.size rfl ?_;intro g cap H f a O ai;have E:Bw W H:=e.grown a om (fun q I=>by cases I;omega);have aj:W.heap.size+1<=H.heap.size:=by have:=a.size;omega
  have ag:W.heap.size<=g:=om;have aa:=(a.block W.heap.size om zE).trans eO;refine hK.out _ _ (L.out _ E) (fun hHeld=>?_);clear hK K a O;refine i6 7 fun K hK=>?_;refine step_append_lies H (by rfl) (.tmp 9) (.tmp 13) 36 (by rfl) w.heap.size 70 J _ 4 72 underlying36 h.out.1 h.out.2.1 h.out.2.2.1 h.out.2.2.2 rfl zC (Zs (Zo ⟨g,0,Zn⟩) n cap) n T (by rfl) f ⟨W.heap.size,0,Zn⟩ 1 1 [Zt x,Zi Zk p,Zs r t s,Zs y A z] (by rfl) rfl (World.news_of_block aa) (by simp[Value.oneCell']) zC (by unfold maxLen;omega) om om H.heap.size rfl ?_;intro g2 C U d b D G;have F:Bw W U:=E.grown b om (fun q I=>by have I:g=q:=(by simpa [Value.ownBlock] using I);omega);refine hK.out _ _ (L.out _ F) (fun hHeld=>?_);clear hK K;have HF:=Lib.hid (M.out U g2 C F d);clear d b D G;refine tk 8 ?_;refine wpAnyH_done zK ?_ _;go_simp;go_wp2;go_ret;exact HF.out
end Go.Proofs.YtcfojmaccikgeaaGreatDoor
