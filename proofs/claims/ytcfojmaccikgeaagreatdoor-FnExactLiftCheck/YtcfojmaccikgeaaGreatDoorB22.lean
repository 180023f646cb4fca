import Derived.Test.YtcfojmaccikgeaaGreatDoorB21
open Go.Value renaming slice→Zs,int→Zi,string→Zt,pointer→Zp,agg→Za,bool→Zb
open Go.IntKind renaming i64→Zk
open Go.Ending renaming returned→Zr
open Go.Obj renaming cells→Zc
open Option renaming none→Zn,some→Zo
open Go renaming World→Zw,Value→Zv
open Nat renaming le_refl→Zl,lt_of_lt_of_le→Zd
open List renaming getElem_mem→Zg
namespace Go.Proofs.YtcfojmaccikgeaaGreatDoor
open Go.RowKit Go.Proofs.Tryz
set_option maxRecDepth 100000
set_option maxHeartbeats 16000000
variable {α:Type} {S:ZP} {w w':Zw} {m bk rb ib nc kc:Nat} {q0 v3 v4:Zv} {na ka:ZO}
def H0(p:UInt8):Prop:=p=84∨p=75∨p=70∨p=35∨p=78∨p=88∨p=86∨p=65
theorem xv:∀k,k<44->∀p,p∈jF k->p=84∨p=75∨p=70∨p=35∨p=78∨p=88∨p=86∨p=65:=by decide
theorem xF (S:ZP) (w:Zw) (m bk a:Nat) (n r:Nd (T m)) (c v3 v4:Zv) (na ka:ZO) (b kc:Nat) (p:UInt8) (d:H0 p) (h:we S w m bk a n r c v3 v4 na ka b kc) :
  Calls prog 147 #[Zp (Zo ⟨bk,0,Zn⟩),Zp (Zo ⟨a,0,Zn⟩),Zi .i32 (p.toNat:Int),Za #[Zi Zk n.sort,Zi Zk n.num,Zt n.text,Zs na n.names.length b,Zs ka n.kids.length kc]] w (gW S m a n r c p w):=by
 rcases d with rfl|rfl|rfl|rfl|rfl|rfl|rfl|rfl;·exact Bm S w m bk a n r c v3 v4 na ka b kc h
 ·exact Bl S w m bk a n r c v3 v4 na ka b kc h
 ·exact Bk S w m bk a n r c v3 v4 na ka b kc h
 ·exact Bn S w m bk a n r c v3 v4 na ka b kc h
 ·exact uf S w m bk a n r c v3 v4 na ka b kc _ (.inl rfl) h
 ·exact uf S w m bk a n r c v3 v4 na ka b kc _ (.inr rfl) h
 ·exact ug S w m bk a n r c v3 v4 na ka b kc _ (.inl rfl) h
 ·exact ug S w m bk a n r c v3 v4 na ka b kc _ (.inr rfl) h
theorem zx{d:α->Int}{n r b:Nd α}{p:UInt8}(c:H0 p)(h:jW d n r p=Zo b):b.names.length<=r.names.length:=by
 rcases c with rfl|rfl|rfl|rfl|rfl|rfl|rfl|rfl
 ·rw[GJ]at h;split at h;·cases h;exact Zl _
  ·cases h
 ·rw[GI]at h;split at h;·cases h;exact Zl _
  ·cases h
 ·rw[GH]at h;split at h;·cases h;simp
  ·cases h
 ·rw[Bf]at h;split at h;·cases h;exact Zl _
  ·cases h
 ·cases hn:r.names with
  | nil=>rw[zw _ _ _ (.inl rfl) hn]at h;cases h
  | cons a q=>
   rw[qi _ _ _ (.inl rfl) hn]at h;split at h;·cases h;simp
   ·cases h
 ·cases hn:r.names with
  | nil=>rw[zw _ _ _ (.inr rfl) hn]at h;cases h
  | cons a q=>
   rw[qi _ _ _ (.inr rfl) hn]at h;split at h;·cases h;simp
   ·cases h
 ·cases hn:r.kids with
  | nil=>rw[Cr _ _ _ (.inl rfl) hn]at h;cases h
  | cons a q=>
   rw[vQ _ _ _ (.inl rfl) hn]at h;split at h;·cases h;exact Zl _
   ·cases h
 ·cases hn:r.kids with
  | nil=>rw[Cr _ _ _ (.inr rfl) hn]at h;cases h
  | cons a q=>
   rw[vQ _ _ _ (.inr rfl) hn]at h;split at h;·cases h;exact Zl _
   ·cases h
theorem we.mv {n r:Nd (T m)} (h:we S w m bk rb n r q0 v3 v4 na ka nc kc) (j:w.heap.size<=w'.heap.size)
  (d:∀b,b<w.heap.size->b≠ib->w'.heap[b]?=w.heap[b]?) (c:¬S ib) (g:ib≠rb) (i:ib≠bk):we S w' m bk rb n r q0 v3 v4 na ka nc kc:=by have f:jn S w w':=fun b a=>d b (h.bnd b a).1 (fun e=>c (e ▸ a));exact⟨h.rst.keep f (d rb h.rst.lt (Ne.symm g)),fun b c=>⟨Zd (h.bnd b c).1 j,(h.bnd b c).2⟩,h.book.keep (d bk h.book.lt (Ne.symm i)),h.ne,h.names.keep f (fun _ h=>h),h.cap,h.kids.keepN f (fun _ h=>h),h.le,h.txt,h.w0,h.w1,h.op⟩
theorem we.next {n r e:Nd (T m)} {a c:Zv} (h:we S w m bk rb n r q0 v3 v4 na ka nc kc) (d:b8 rb w w') (j:wg S w' m rb e q0 a c) (i:e.names.length<=r.names.length) :
  we S w' m bk rb n e q0 a c na ka nc kc:=by have g:=d.same h.bnd;exact⟨j,fun b f=>⟨Zd (h.bnd b f).1 d.size,(h.bnd b f).2⟩,h.book.keep (d.block bk h.book.lt h.ne),h.ne,h.names.keep g (fun _ h=>h),h.cap,h.kids.keepN g (fun _ h=>h),Nat.le_trans i h.le,h.txt,h.w0,h.w1,h.op⟩
structure sG(S:ZP)(w wr:Zw)(m bk:Nat)(n r:Nd (T m))(v3 v4:Zv)(na ka:ZO)(nc kc k pos ib:Nat):Prop where
 off:we S wr m bk (w.heap.size+1) n r (Zi Zk (k:Int)) v3 v4 na ka nc kc
 iter:wr.heap[ib]?=Zo (.stringIter (bs (jF k)) pos)
 node:wr.heap[w.heap.size]?=Zo (Zc #[Zi Zk (k:Int),Zi Zk n.num,Zt n.text,Zs na n.names.length nc,Zs ka n.kids.length kc] 40 (0,0))
 below:Bw w wr
 le:pos<=(jF k).length
 fold:ja (jM m) n ((jF k).drop pos) r=ja (jM m) n (jF k) n
theorem fZ {b:Nat} {c0 c1 c2 c3 c4:Zv} {t:TypeId} (h:w.heap[b]?=Zo (Zc #[c0,c1,c2,c3,c4] t (0,0))) :
  w.cell? ⟨b,0,Zn⟩=Zo c0/\w.cell? ⟨b,1,Zn⟩=Zo c1/\w.cell? ⟨b,2,Zn⟩=Zo c2/\w.cell? ⟨b,3,Zn⟩=Zo c3/\w.cell? ⟨b,4,Zn⟩=Zo c4:=by refine⟨?_,?_,?_,?_,?_⟩<;>simp[World.cell?,h]
theorem vM:∀k,k<44->∀p,p∈jF k->p.toNat<128:=by decide
theorem sS(l:List UInt8)(i:Nat)(h:i<(bs l).size):(bs l)[i]'h=l[i]'(by rw[gq]at h;exact h):=by simp[bs,ByteArray.getElem_eq_getElem_data]
theorem sG.step {wr:Zw} {n r:Nd (T m)} {k a:Nat} (h:sG S w wr m bk n r v3 v4 na ka nc kc k a ib) (C:w.heap.size+2<=ib) (B:bk<w.heap.size) (y:Bd S w) (D:k<44)
  (u:a<(jF k).length) :
  we S (wr.iterAt ib (bs (jF k)) (a+1)) m bk (w.heap.size+1) n r (Zi Zk (k:Int)) v3 v4 na ka nc kc /\
  (wr.iterAt ib (bs (jF k)) (a+1)).heap[w.heap.size]?=wr.heap[w.heap.size]? /\
  (∀e q,gW S m (w.heap.size+1) n r (Zi Zk (k:Int)) (jF k)[a] (wr.iterAt ib (bs (jF k)) (a+1)) e q ->
   (∃x i j,e=Zr (Zb true)/\sG S w q m bk n x i j na ka nc kc k (a+1) ib)∨(e=Zr (Zb false)/\ja (jM m) n (jF k) n=Zn/\Bw w q)):=by
 have g:=h.off.mv (w':=wr.iterAt ib (bs (jF k)) (a+1)) (ib:=ib) (by rw[Lib.iterAt_size];exact Zl _) (fun b _ A=>Lib.iterAt_other wr ib b _ _ A) (fun z=>by have:=y ib z;omega) om om;have s:(wr.iterAt ib (bs (jF k)) (a+1)).heap[ib]?=Zo (.stringIter (bs (jF k)) (a+1)):=Lib.iterAt_heap wr ib _ _ _ h.iter;have t:ib<wr.heap.size:=(Array.getElem?_eq_some_iff.1 h.iter).1;have c:Bw w (wr.iterAt ib (bs (jF k)) (a+1)):=Lib.below_iterAt h.below om _ _;have p:(wr.iterAt ib (bs (jF k)) (a+1)).heap[w.heap.size]?=wr.heap[w.heap.size]?:=Lib.iterAt_other wr ib _ _ _ om;have d:(jF k).drop a=(jF k)[a] :: (jF k).drop (a+1):=(List.drop_eq_getElem_cons u);have l:H0 (jF k)[a]:=xv k D _ (Zg u);refine⟨g,p,?_⟩;rintro e q ⟨o,⟨x,i,j,f,rfl,v⟩|⟨f,rfl⟩⟩
 ·refine .inl ⟨x,i,j,rfl,g.next o v (zx l f),?_,?_,c.trans (o.below om c.size),u,?_⟩;·exact (o.block ib (by rw[Lib.iterAt_size];exact t) om).trans s
  ·exact (o.block w.heap.size (by rw[Lib.iterAt_size];omega) om).trans (p.trans h.node)
  ·have:=h.fold;rw[d,jJ f]at this;exact this
 ·refine .inr ⟨rfl,?_,c.trans (o.below om c.size)⟩;have:=h.fold;rw[d,je f]at this;exact this.symm
theorem Ay (S:ZP) (w:Zw) (m bk:Nat) (n:Nd (T m)) (na ka:ZO) (a kc:Nat) (V:(Lit.int Zk n.sort).wf=true) (X:(Lit.int Zk n.num).wf=true) (Z:fL S w n.names (Zs na n.names.length a)) (K:n.names.length<=a)
  (h4:ik S w (fT S w m) n.kids (Zs ka n.kids.length kc)) (ad:n.kids.length<=kc) (hB:Bd S w) (l:lg w bk) (hx:n.text.size<=1048576) :
  Calls prog 111 #[Zp (Zo ⟨bk,0,Zn⟩),Za #[Zi Zk n.sort,Zi Zk n.num,Zt n.text,Zs na n.names.length a,Zs ka n.kids.length kc]] w fun e w'=>e=Zr (Zb (gZ (jM m) n))/\Bw w w':=by
 have G:Hid (∀w,Calls prog 37 #[Zi Zk n.sort] w _):=fun w=>nt n.sort w;have I:=(Below.refl w.heap.size w).alloc (Zl _) (Zc #[Zi Zk n.sort,Zi Zk n.num,Zt n.text,Zs na n.names.length a,Zs ka n.kids.length kc] 40);by_cases y:1<=n.sort/\n.sort<=43;case neg=>
  have Q:rF n.sort=0:=by unfold rF;rw[if_pos om]
  have Y:Hid (gZ (jM m) n=false):=by show _=_;unfold gZ;rw[decide_eq_false y];rfl
  rw[Q]at G;clear Z h4 l;go_in;go_wp2_with fail;refine (G.out _).mono ?_;rintro e w1 ⟨rfl,rfl⟩;go_wp2;go_ret;exact⟨b6 Y.out.symm,I⟩
 have Q:(rF n.sort==0)=false:=by
  have:rF n.sort=86∨rF n.sort=65:=by
   unfold rF;rw[if_neg om];split;·exact .inl rfl
   ·exact .inr rfl
  rcases this with h|h<;>rw[h]<;>rfl
 generalize rF n.sort=po at *;obtain⟨k,M⟩:∃k:Nat,n.sort=(k:Int):=⟨n.sort.toNat,om⟩;have g:k<44:=om;obtain⟨W,E⟩:=ii (((w.alloc (Zc #[Zi Zk (k:Int),Zi Zk n.num,Zt n.text,Zs na n.names.length a,Zs ka n.kids.length kc] 40)).alloc (Zc #[Zi Zk (k:Int),Zi Zk n.num,Zt n.text,Zs na n.names.length a,Zs ka n.kids.length kc] 40)).drew);have U:W.heap.size=w.heap.size+2:=by rw[E];simp
 have A:Bw w W:=by rw[E];exact ((gx _ _).alloc zS _).drew
 have j:Bw w (W.iter (bs (jF k)) 0):=A.alloc A.size _;have R:jn S w (W.iter (bs (jF k)) 0):=a6 j hB;have o:=l.lt;have t:(W.iter (bs (jF k)) 0).heap[w.heap.size]?=Zo (Zc #[Zi Zk (k:Int),Zi Zk n.num,Zt n.text,Zs na n.names.length a,Zs ka n.kids.length kc] 40 (0,0)):=by refine (Below.heap_alloc _ _ _ om).trans ?_;rw[E];exact (Below.heap_alloc _ _ _ zS).trans (heap_alloc_last _ _)
 have v:(W.iter (bs (jF k)) 0).heap[w.heap.size+1]?=Zo (Zc #[Zi Zk (k:Int),Zi Zk n.num,Zt n.text,Zs na n.names.length a,Zs ka n.kids.length kc] 40 (0,0)):=by refine (Below.heap_alloc _ _ _ om).trans ?_;rw[E];have:=heap_alloc_last (w.alloc (Zc #[Zi Zk (k:Int),Zi Zk n.num,Zt n.text,Zs na n.names.length a,Zs ka n.kids.length kc] 40)) (Zc #[Zi Zk (k:Int),Zi Zk n.num,Zt n.text,Zs na n.names.length a,Zs ka n.kids.length kc] 40);rw[show (w.alloc (Zc #[Zi Zk (k:Int),Zi Zk n.num,Zt n.text,Zs na n.names.length a,Zs ka n.kids.length kc] 40)).heap.size=w.heap.size+1 by simp]at this;exact this
 have HJ:Hid (sG S w (W.iter (bs (jF k)) 0) m bk n n (Zs na n.names.length a) (Zs ka n.kids.length kc) na ka a kc k 0 (w.heap.size+2)):=by
  refine⟨⟨⟨v,Z.keep R (fun _ h=>h),⟨_,_,_,rfl,K⟩,h4.keepN R (fun _ h=>h),⟨_,_,_,rfl,ad⟩⟩,fun b hS=>?_,l.keep (j.block bk o),om,Z.keep R (fun _ h=>h),K,h4.keepN R (fun _ h=>h),Zl _,hx,V,X,y⟩,?_,t,j,Nat.zero_le _,by rw[List.drop_zero]⟩;·have:=hB b hS;exact⟨Zd this j.size,om⟩
  ·rw[<- U];exact World.iter_heap _ _ _
 have HB:=a7 hB;have q:lg (w.alloc (Zc #[Zi Zk (k:Int),Zi Zk n.num,Zt n.text,Zs na n.names.length a,Zs ka n.kids.length kc] 40)) bk:=l.keep (Below.heap_alloc _ _ _ o);have f:lg ((w.alloc (Zc #[Zi Zk (k:Int),Zi Zk n.num,Zt n.text,Zs na n.names.length a,Zs ka n.kids.length kc] 40)).alloc (Zc #[Zi Zk (k:Int),Zi Zk n.num,Zt n.text,Zs na n.names.length a,Zs ka n.kids.length kc] 40)) bk:=q.keep (Below.heap_alloc _ _ _ zE);obtain⟨-,b1,-,-⟩:=f k g;have HW:=a7 E;have HK:=a7 M;have aa:Hid (∀ (H:Zw) (r:Nd (T m)) (v3 v4:Zv) (p:UInt8),H0 p->we S H m bk (w.heap.size+1) n r (Zi Zk (k:Int)) v3 v4 na ka a kc ->
   Calls prog 147 #[Zp (Zo ⟨bk,0,Zn⟩),Zp (Zo ⟨w.heap.size+1,0,Zn⟩),Zi .i32 (p.toNat:Int),Za #[Zi Zk (k:Int),Zi Zk n.num,Zt n.text,Zs na n.names.length a,Zs ka n.kids.length kc]] H (gW S m (w.heap.size+1) n r (Zi Zk (k:Int)) p H)):=by
  intro H r v3 v4 p D ho
  have:=xF S H m bk (w.heap.size+1) n r _ v3 v4 na ka a kc p D ho
  rw[M]at this
  exact this
 have Y:Hid (gZ (jM m) n=nS (ja (jM m) n (jF k) n)):=by show _=_;unfold gZ;rw[decide_eq_true y,M];rfl
 rw[M]at G ⊢;clear M Z h4 hB l R A j t v E I q f V X hx y;go_in;go_wp2_with fail;refine (G.out _).mono ?_;rintro e w1 ⟨rfl,rfl⟩;go_wp2_with fail;go_region;rw[<- HW.out];clear b1 G;go_wp2;go_loopw [7] (fun _ wr=>∃c r v3 v4,sG S w wr m bk n r v3 v4 na ka a kc k c (w.heap.size+2)) (fun _ wr=>(jF k).length-wr.iterPos (w.heap.size+2));case atStart=>exact⟨0,_,_,_,HJ.out⟩
 case round=>
  obtain⟨c,r,v3,v4,i⟩:=hrel;have ae:=i.le;have s:=i.iter;have d:=iterPos_of s;by_cases D:c<(jF k).length
  ·have x:=fun ty=>Lib.run_next_ascii_at (P:=prog) wr (w.heap.size+2) (bs (jF k)) c ty s (by rw[gq];exact D) (by rw[sS];exact vM k g _ (Zg D));rw[sS]at x;obtain⟨ho,N,u⟩:=i.step (Zl _) o HB.out g D;have L:=N.trans i.node;obtain⟨z0,z1,z2,z3,z4⟩:=fZ L;have HC:=a7 (aa.out _ r v3 v4 _ (xv k g _ (Zg D)) ho);have z:=a7 u;have HI:Hid (wr.iterPos (w.heap.size+2)=c):=d;clear i s d ho N u L;go_wp2_with fail;refine HC.out.mono ?_;rintro e w2 hq;rcases z.out e w2 hq with ⟨r',af,ag,rfl,C⟩|⟨rfl,O,J⟩
   ·have ac:=a7 C;have ab:Hid (w2.iterPos (w.heap.size+2)=c+1):=iterPos_of C.iter;clear hq C HC z z0 z1 z2 z3 z4 x;go_wp2;go_roundw;case rel=>exact⟨c+1,_,_,_,ac.out⟩
    case measure=>rw[ab.out,HI.out];omega
   ·have F:Hid (gZ (jM m) n=false/\Bw w w2):=⟨by rw[Y.out,O];rfl,J⟩;clear hq HC z z0 z1 z2 z3 z4 x O J;go_wp2;go_ret;exact⟨b6 F.out.1.symm,F.out.2⟩
  ·have x:=fun ty=>Lib.run_next_end_at (P:=prog) wr (w.heap.size+2) (bs (jF k)) c ty s (by rw[gq];exact D);have B:=i.fold;rw[List.drop_of_length_le om,ja]at B;have F:Hid (gZ (jM m) n=((r.num==0) && r.text.toList.isEmpty && ((r.names.length:Int)==0) && ((r.kids.length:Int)==0))/\Bw w wr):=⟨by rw[Y.out,<- B];rfl,i.below⟩;obtain⟨⟨y1,y2,y3,y4⟩,-⟩:=i.off.rst.cells;obtain⟨xa,xl,xc,rfl,-⟩:=i.off.rst.k3;obtain⟨ya,yl,yc,rfl,-⟩:=i.off.rst.k4;obtain⟨_,_,hv,-⟩:=id i.off.rst.n3;cases hv
   obtain⟨_,_,hv,-⟩:=id i.off.rst.n4;cases hv
   clear i s d B;go_wp2_with fail;all_goals
    go_ret
    refine⟨b6 ?_,F.out.2⟩
    rw[F.out.1]
    first
     | simp[‹r.num=0›,‹r.text.toList=[]›,‹r.names=[]›]
     | simp[‹r.num=0›,‹r.text.toList=[]›,‹¬r.names=[]›]
     | simp[‹r.num=0›,‹¬r.text.toList=[]›]
     | simp[‹¬r.num=0›]
structure EM(w:Zw)(pb bb bk:Nat)(p:Int):Prop where
 parts:lm w pb p
 bc:w.cell? ⟨bb,0,Zn⟩=Zo (Zp (Zo ⟨bk,0,Zn⟩))
 book:lg w bk
 nb:bb≠pb
 nk:bk≠pb
theorem EM.keep{a bb:Nat}{p q:Int}(h:EM w a bb bk p)(b:b8 a w w')(c:lm w' a q):EM w' a bb bk q:=
 ⟨c,b.cell h.bc h.nb,h.book.keep (b.block bk h.book.lt h.nk),h.nb,h.nk⟩
theorem ux{p:α->Bool}{l:List α}(k:Nat)(h:k<l.length)(b:(l.take k).all p=true)(a:p l[k]=true):(l.take (k+1)).all p=true:=by rw[List.take_succ_eq_append_getElem h,List.all_append,b];simpa using a
theorem E4 (S:ZP) (m:Nat) (n:Nd (T m)) (na ka:ZO) (j kc a bb bk:Nat) (d p:Int) (w:Zw) (v:(Lit.int Zk n.sort).wf=true) (x:(Lit.int Zk n.num).wf=true)
  (z:fL S w n.names (Zs na n.names.length j)) (q:n.names.length<=j) (A:ik S w (fT S w m) n.kids (Zs ka n.kids.length kc)) (r:n.kids.length<=kc) (o:∀b,S b->b<w.heap.size/\b≠a)
  (f:EM w a bb bk p) (I:n.text.size<=1048576) (G:0<=p) (H:p<=200) :
  Calls prog 110 #[Za #[Zi Zk n.sort,Zi Zk n.num,Zt n.text,Zs na n.names.length j,Zs ka n.kids.length kc],Zi Zk d,Zp (Zo ⟨a,0,Zn⟩),Zp (Zo ⟨bb,0,Zn⟩)] w
   fun e l=>e=Zr (Zb (decide (p+1<=200) && decide (d<=24) && gZ (jM m) n))/\lm l a (p+1)/\b8 a w l:=by
 have E:=f.parts.lt;have k:b8 a w (w.setCell ⟨a,0,Zn⟩ (Zi Zk (p+1))):=b8.set a 0 _ (Zi Zk (p+1));have c:=k.trans (b8.alloc a _ (Zc #[Zi Zk n.sort,Zi Zk n.num,Zt n.text,Zs na n.names.length j,Zs ka n.kids.length kc] 40));have i:lm ((w.setCell ⟨a,0,Zn⟩ (Zi Zk (p+1))).alloc (Zc #[Zi Zk n.sort,Zi Zk n.num,Zt n.text,Zs na n.names.length j,Zs ka n.kids.length kc] 40)) a (p+1):=(f.parts.set (p+1)).keep (gx _ _);have u:=c.same o;have y:Hid (Calls prog 111 _ _ _):=Ay S _ m bk n na ka j kc v x (z.keep u (fun _ h=>h)) q (A.keepN u (fun _ h=>h)) r (fun b D=>Zd (o b D).1 c.size) (f.book.keep (c.block bk f.book.lt f.nk)) I;have c0:=f.parts.cell;have f0:=f.parts.free;have J:=f.bc;have nm:=f.nb;have K:bb<w.heap.size:=d8 J;have F:w.heap.size≠a:=om;clear z A f k o u;by_cases B:p+1<=200
 ·by_cases C:d<=24;·go_in;go_wp2_with fail;refine y.out.mono ?_;rintro e l ⟨rfl,g⟩;have t:lm l a (p+1):=(g.block a zE).trans i;have s:=c.trans (b8.of_below (bb:=a) g);clear g y;go_wp2;go_ret;exact⟨b6 (by simp[B,C]),t,s⟩
  ·go_in;go_wp2;go_ret;exact⟨b6 (by rw[decide_eq_false (show ¬d<=24 by omega)];simp),i,c⟩
 ·go_in;go_wp2;go_ret;exact⟨b6 (by rw[decide_eq_false (show ¬p+1<=200 by omega)];simp),i,c⟩
def oH(n:Nat)(t:T n)(d p:Int)(a:Nat)(w:Zw)(e:Ending)(w':Zw):Prop:=
 b8 a w w' /\ ∃r,e=Zr (Zb r)/\(r=true->gp n t d=true/\p+(d9 n t:Int)<=200/\lm w' a (p+d9 n t))/\(r=false->¬(gp n t d=true/\p+(d9 n t:Int)<=200))
def J2(a bb:Nat):Zv:=.func (.func 110) #[] #[Zp (Zo ⟨a,0,Zn⟩),Zp (Zo ⟨bb,0,Zn⟩)]
def qA(n:Nat):Prop:=∀(S:ZP)(t:T n)(c0 c1 c2 c3 c4:Zv)(d p:Int)(a c bk:Nat)(w:Zw),fT S w n t c0 c1 c2 c3 c4->(∀b,S b->b<w.heap.size/\b≠a)->EM w a c bk p->jR n t<=1048576->0<=p->p<=200->1<=d->d<=25 ->
 Calls prog 109 #[Za #[c0,c1,c2,c3,c4],Zi Zk d,J2 a c] w (oH n t d p a w)
theorem Dn(a b c d e:Zv)(h:∃x l k,e=Zs x l k)(w:Zw):Calls prog 286 #[Za #[a,b,c,d,e]] w fun g i=>g=Zr e/\Bw w i:=by obtain⟨x,l,k,rfl⟩:=h;have f:=(Below.refl w.heap.size w).alloc (Zl _) (Zc #[a,b,c,d,Zs x l k] 40);go_in;go_wp2;go_ret;exact⟨rfl,f⟩
theorem Es {n:Nat} {t:T (n+1)} {d p:Int} (k:Nat) (b:k<(Nd.kids t).length)
  (h:¬(gp n (Nd.kids t)[k] (d+1)=true/\p+1+(b4 (fun x=>d9 n x) ((Nd.kids t).take k):Int)+(d9 n (Nd.kids t)[k]:Int)<=200)):¬(gp (n+1) t d=true/\p+(d9 (n+1) t:Int)<=200):=by rintro ⟨a,f⟩;apply h;simp only[gp,Bool.and_eq_true,List.all_eq_true]at a;refine⟨a.2 _ (Zg b),?_⟩;have e:=fQ (fun x=>d9 n x) (Nd.kids t) k b;have c:=iq (fun x=>d9 n x) ((Nd.kids t).take (k+1)) ((Nd.kids t).drop (k+1));rw[List.take_append_drop]at c;simp only[d9]at f;omega
theorem BC(n:Nat)(hn:qA n):qA (n+1):=by
 intro S t c0 c1 c2 c3 c4 d p v bb bk w ht J g V al am au av;obtain⟨rfl,rfl,rfl,ax,ap,aq,h3,h4,⟨na,nl,nc,rfl,ah⟩,⟨ka,kl,kc,rfl,ai⟩⟩:=ht;obtain⟨_,_,hv,-⟩:=id h3;cases hv
 obtain⟨_,_,hv,ab,-⟩:=id h4;cases hv
 have ao:(Nd.text t).size<=1048576:=by simp only[jR]at V;omega
 have af:Hid (∀k (h:k<(Nd.kids t).length),jR n (Nd.kids t)[k]<=1048576):=fun k h=>by have:=gK (fun k=>jR n k+1) (Nd.kids t) _ (Zg h);simp only[jR]at V;omega
 clear V;unfold maxLen at ab;have j:=g.parts.lt;have N:=(Below.refl w.heap.size w).alloc (Zl _) (Zc #[Zi Zk (Nd.sort t),Zi Zk (Nd.num t),Zt (Nd.text t),Zs na (Nd.names t).length nc,Zs ka (Nd.kids t).length kc] 40);have F:b8 v w (w.alloc (Zc #[Zi Zk (Nd.sort t),Zi Zk (Nd.num t),Zt (Nd.text t),Zs na (Nd.names t).length nc,Zs ka (Nd.kids t).length kc] 40)):=b8.of_below N;have Z:=h3.keep (F.same J) (fun _ h=>h);have A:=h4.keepN (F.same J) (fun _ h=>h);have X:Hid (Calls prog 110 _ _ _):=E4 S n (show Nd (T n) from t) na ka nc kc v bb bk d p _ ap aq Z ah A ai (fun b K=>by have:=J b K;simp;omega) (g.keep F (g.parts.keep N)) ao al am;clear A;unfold J2;go_in;go_wp2_with fail;refine X.out.mono ?_;rintro e w1 ⟨rfl,U,l⟩;have y:=F.trans l;have P:=g.keep y U;have az:=y.size;have ay:w.heap.size<w1.heap.size:=by have:=l.size;simp at this;omega
 have k0:w1.cell? ⟨w.heap.size,0,Zn⟩=Zo (Zi Zk (Nd.sort t)):=l.cell (by simp[go_sem]) om;have k1:w1.cell? ⟨w.heap.size,1,Zn⟩=Zo (Zi Zk (Nd.num t)):=l.cell (by simp[go_sem]) om;have k2:w1.cell? ⟨w.heap.size,2,Zn⟩=Zo (Zt (Nd.text t)):=l.cell (by simp[go_sem]) om;have k3:w1.cell? ⟨w.heap.size,3,Zn⟩=Zo (Zs na (Nd.names t).length nc):=l.cell (by simp[go_sem]) om;have k4:w1.cell? ⟨w.heap.size,4,Zn⟩=Zo (Zs ka (Nd.kids t).length kc):=l.cell (by simp[go_sem]) om;have A:=h4.keepN (y.same J) (fun _ h=>h);clear X F N Z l h3 h4;generalize o:(decide (p+1<=200) && decide (d<=24) && gZ (jM n) (show Nd (T n) from t))=ok;cases ok with
 | false=>
  have Y:Hid (oH (n+1) t d p v w (Zr (Zb false)) w1):=by
   refine⟨y,false,rfl,fun h=>(by cases h),fun _=>?_⟩;rintro ⟨W,hc⟩;simp only[gp,Bool.and_eq_true,decide_eq_true_eq]at W;have ha:gZ (jM n) (show Nd (T n) from t)=true:=W.1.2;have:p+1<=200:=by simp only[d9]at hc;omega
   rw[ha,decide_eq_true W.1.1,decide_eq_true this]at o;cases o
  clear o;go_wp2;go_ret;exact Y.out
 | true=>
  simp only[Bool.and_eq_true,decide_eq_true_eq]at o;have ae:Hid ((decide (d<=24) && gZ (jM n) (show Nd (T n) from t))=true):=by show _=_;rw[o.2,decide_eq_true o.1.2];rfl
  obtain⟨⟨ak,aw⟩,-⟩:=o;go_wp2_with fail;refine (Dn _ _ _ _ _ ⟨_,_,_,rfl⟩ _).mono ?_;rintro e w2 ⟨rfl,B⟩;have ac:b8 v w w2:=y.trans (b8.of_below B);have an:lm w2 v (p+1):=U.keep B;have aA:=B.size;have h5:=A.keepN ((b8.of_below (bb:=v) B).same (fun b K=>by have:=J b K;omega)) (fun _ h=>h);clear A B P y U k0 k1 k2 k3 k4;obtain⟨_,_,aj,-,m⟩:=h5;cases aj
  go_wp2;go_loopw [18] (fun i wr=>∃ k:Nat,k<=(Nd.kids t).length/\i=Zi Zk k/\b8 v w2 wr/\lm wr v (p+1+(b4 (fun x=>d9 n x) ((Nd.kids t).take k):Int)) /\
    p+1+(b4 (fun x=>d9 n x) ((Nd.kids t).take k):Int)<=200/\((Nd.kids t).take k).all (fun x=>gp n x (d+1))=true) (fun i _=>(Nd.kids t).length-(intOf i).toNat)
  case atStart=>exact⟨0,Nat.zero_le _,rfl,b8.refl _ _,by simpa [b4] using an,by simpa [b4] using ak,zS⟩
  case round=>
   obtain⟨k,hk,rfl,c,s,a,M⟩:=hrel;have f:=a7 M;clear M;have aB:=c.size;have G:=ac.trans c;have ar:=s.lt;by_cases j:k<(Nd.kids t).length
   ·obtain⟨b,off,rfl,ag,E⟩:=m (by intro h;rw[h]at j;simp at j);obtain⟨x0,x1,x2,x3,x4,e0,e1,e2,e3,e4,hr⟩:=E k j;have C:=J b ag;have f0:=c.cell e0 C.2;have f1:=c.cell e1 C.2;have f2:=c.cell e2 C.2;have f3:=c.cell e3 C.2;have f4:=c.cell e4 C.2;have q:=hr.keep (c.same (fun b K=>by have:=J b K;omega)) (fun _ h=>h);obtain⟨y0,y1,y2,ya,yl,yc,za,zl,zc,rfl,rfl,rfl,rfl,rfl⟩:=q.shape;clear m E e0 e1 e2 e3 e4 hr;have O:=(Below.refl wr.heap.size wr).alloc (Zl _) (Zc #[Zi Zk y0,Zi Zk y1,Zt y2,Zs ya yl yc,Zs za zl zc] 40);have H:b8 v wr (wr.alloc (Zc #[Zi Zk y0,Zi Zk y1,Zt y2,Zs ya yl yc,Zs za zl zc] 40)):=b8.of_below O;have q5:=q.keep (H.same (fun b K=>by have:=J b K;omega)) (fun _ h=>h);have D:=g.keep (G.trans H) (s.keep O);have X:Hid (Calls prog 109 _ _ _):=hn S (Nd.kids t)[k] _ _ _ _ _ (d+1) _ v bb bk _ q5 (fun b K=>by have:=J b K;simp;omega) D (af.out k j) om a om om;have z:=@Es n t d p k j;have u:Hid (b4 (fun x=>d9 n x) ((Nd.kids t).take (k+1))=b4 (fun x=>d9 n x) ((Nd.kids t).take k)+d9 n (Nd.kids t)[k]):=fQ _ _ _ j;clear q q5 D O;unfold J2 at X;go_wp2_with fail;refine X.out.mono ?_;rintro e w3 ⟨Q,r,rfl,I,R⟩;have L:=c.trans (H.trans Q);cases r with
    | false=>have Y:Hid (oH (n+1) t d p v w (Zr (Zb false)) w3):=⟨ac.trans L,false,rfl,fun h=>(by cases h),fun _=>z (R rfl)⟩;clear z R I u f Q L H G;go_wp2;go_ret;exact Y.out
    | true=>
     obtain⟨W,hc,ad⟩:=I rfl;have HR:Hid (b8 v w2 w3/\lm w3 v (p+1+(b4 (fun x=>d9 n x) ((Nd.kids t).take (k+1)):Int))/\p+1+(b4 (fun x=>d9 n x) ((Nd.kids t).take (k+1)):Int)<=200/\((Nd.kids t).take (k+1)).all (fun x=>gp n x (d+1))=true):=by
      refine⟨L,?_,?_,ux k j f.out W⟩;·rw[u.out,show p+1+((b4 (fun x=>d9 n x) ((Nd.kids t).take k)+d9 n (Nd.kids t)[k]:Nat):Int)=p+1+(b4 (fun x=>d9 n x) ((Nd.kids t).take k):Int)+(d9 n (Nd.kids t)[k]:Int) by omega];exact ad
      ·rw[u.out];omega
     clear z R I u f Q L H G W hc ad s a;go_wp2;go_roundw;case rel=>exact⟨k+1,om,by go_num,HR.out.1,HR.out.2.1,HR.out.2.2.1,HR.out.2.2.2⟩
     case measure=>simp[intOf];omega
   ·have aa:k=(Nd.kids t).length:=by omega
    have Y:Hid (oH (n+1) t d p v w (Zr (Zb true)) wr):=by
     have h1:=f.out;rw[aa,List.take_length]at h1 s a;have e:p+1+(b4 (fun x=>d9 n x) (Nd.kids t):Int)=p+(d9 (n+1) t:Int):=by simp only[d9];omega
     rw[e]at s a;exact⟨G,true,rfl,fun _=>⟨by have:=ae.out;simp only[gp,this,h1,Bool.and_self],a,s⟩,fun h=>(by cases h)⟩
    clear aa m f G s a;go_wp2;go_ret;exact Y.out
theorem Er:∀n,qA n:=by
 intro n;induction n with
 | zero=>intro S t c0 c1 c2 c3 c4 d p e c bk w a;exact a.elim
 | succ n b=>exact BC n b
end Go.Proofs.YtcfojmaccikgeaaGreatDoor
