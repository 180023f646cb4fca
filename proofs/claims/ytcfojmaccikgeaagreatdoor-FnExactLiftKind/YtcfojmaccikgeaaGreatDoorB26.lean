import Derived.Test.YtcfojmaccikgeaaGreatDoorB25
import Derived.Laws.RangeString
import Derived.Lib.OthersKept
import Derived.WalkSmall
open Go.Value renaming slice→Zs,int→Zi,string→Zt,pointer→Zp,agg→Za,bool→Zb
open Go.IntKind renaming i64→Zk
open Go.Ending renaming returned→Zr
open Go.Obj renaming cells→Zc
open Option renaming none→Zn,some→Zo
open Go renaming World→Zw,Value→Zv
open Nat renaming le_refl→Zl,lt_of_lt_of_le→Zd
open List renaming getElem_mem→Zg
namespace Go.Proofs.YtcfojmaccikgeaaGreatDoor
open Go.RowKit Go.Proofs.Tryz
set_option maxRecDepth 100000
set_option maxHeartbeats 16000000
variable {α:Type} {S:Nat->Prop} {w w':Zw} {m bk rb ib nc kc:Nat} {q0 v3 v4:Zv} {na ka:Option Addr}
def GM(p:UInt8):Prop:=p=84∨p=75∨p=70∨p=35∨p=78∨p=88∨p=86∨p=65
theorem wL:∀k,k<44->∀p,p∈jz k->p=84∨p=75∨p=70∨p=35∨p=78∨p=88∨p=86∨p=65:=by decide
theorem vN (S:Nat->Prop) (w:Zw) (m c a:Nat) (n r:Nd (T m)) (f v3 v4:Zv) (na b:Option Addr) (d e:Nat) (p:UInt8) (g:GM p) (h:xj S w m c a n r f v3 v4 na b d e) :
  Calls prog 147 #[Zp (Zo ⟨c,0,Zn⟩),Zp (Zo ⟨a,0,Zn⟩),Zi .i32 (p.toNat:Int),Za #[Zi Zk n.sort,Zi Zk n.num,Zt n.text,Zs na n.names.length d,Zs b n.kids.length e]] w (hh S m a n r f p w):=by
 rcases g with rfl|rfl|rfl|rfl|rfl|rfl|rfl|rfl;·exact AL S w m c a n r f v3 v4 na b d e h
 ·exact AH S w m c a n r f v3 v4 na b d e h
 ·exact Bn S w m c a n r f v3 v4 na b d e h
 ·exact AU S w m c a n r f v3 v4 na b d e h
 ·exact tp S w m c a n r f v3 v4 na b d e _ (.inl rfl) h
 ·exact tp S w m c a n r f v3 v4 na b d e _ (.inr rfl) h
 ·exact sU S w m c a n r f v3 v4 na b d e _ (.inl rfl) h
 ·exact sU S w m c a n r f v3 v4 na b d e _ (.inr rfl) h
theorem xP{c:α->Int}{n r b:Nd α}{p:UInt8}(d:GM p)(h:jL c n r p=Zo b):b.names.length<=r.names.length:=by
 rcases d with rfl|rfl|rfl|rfl|rfl|rfl|rfl|rfl
 ·rw[Fh]at h;split at h;·cases h;exact Zl _
  ·cases h
 ·rw[Ex]at h;split at h;·cases h;exact Zl _
  ·cases h
 ·rw[FR]at h;split at h;·cases h;simp
  ·cases h
 ·rw[AD]at h;split at h;·cases h;exact Zl _
  ·cases h
 ·cases hn:r.names with
  | nil=>rw[zh _ _ _ (.inl rfl) hn]at h;cases h
  | cons a q=>
   rw[qh _ _ _ (.inl rfl) hn]at h;split at h;·cases h;simp
   ·cases h
 ·cases hn:r.names with
  | nil=>rw[zh _ _ _ (.inr rfl) hn]at h;cases h
  | cons a q=>
   rw[qh _ _ _ (.inr rfl) hn]at h;split at h;·cases h;simp
   ·cases h
 ·cases hn:r.kids with
  | nil=>rw[BC _ _ _ (.inl rfl) hn]at h;cases h
  | cons a q=>
   rw[uW _ _ _ (.inl rfl) hn]at h;split at h;·cases h;exact Zl _
   ·cases h
 ·cases hn:r.kids with
  | nil=>rw[BC _ _ _ (.inr rfl) hn]at h;cases h
  | cons a q=>
   rw[uW _ _ _ (.inr rfl) hn]at h;split at h;·cases h;exact Zl _
   ·cases h
theorem xj.mv {n r:Nd (T m)} (h:xj S w m bk rb n r q0 v3 v4 na ka nc kc) (j:w.heap.size<=w'.heap.size)
  (f:∀b,b<w.heap.size->b≠ib->w'.heap[b]?=w.heap[b]?) (c:¬S ib) (i:ib≠rb) (g:ib≠bk):xj S w' m bk rb n r q0 v3 v4 na ka nc kc:=by have d:jy S w w':=fun b a=>f b (h.bnd b a).1 (fun e=>c (e ▸ a));exact⟨h.rst.keep d (f rb h.rst.lt (Ne.symm i)),fun b c=>⟨Zd (h.bnd b c).1 j,(h.bnd b c).2⟩,h.book.keep (f bk h.book.lt (Ne.symm g)),h.ne,h.names.keep d (fun _ h=>h),h.cap,h.kids.keepN d (fun _ h=>h),h.le,h.txt,h.w0,h.w1,h.op⟩
theorem xj.next {n r e:Nd (T m)} {c a:Zv} (h:xj S w m bk rb n r q0 v3 v4 na ka nc kc) (d:b7 rb w w') (i:vJ S w' m rb e q0 c a) (j:e.names.length<=r.names.length) :
  xj S w' m bk rb n e q0 c a na ka nc kc:=by have f:=d.same h.bnd;exact⟨i,fun b g=>⟨Zd (h.bnd b g).1 d.size,(h.bnd b g).2⟩,h.book.keep (d.block bk h.book.lt h.ne),h.ne,h.names.keep f (fun _ h=>h),h.cap,h.kids.keepN f (fun _ h=>h),Nat.le_trans j h.le,h.txt,h.w0,h.w1,h.op⟩
structure sQ(S:Nat->Prop)(w wr:Zw)(m bk:Nat)(n r:Nd (T m))(v3 v4:Zv)(na ka:Option Addr)(nc kc k pos ib:Nat):Prop where
 off:xj S wr m bk (w.heap.size+1) n r (Zi Zk (k:Int)) v3 v4 na ka nc kc
 iter:wr.heap[ib]?=Zo (.stringIter (bs (jz k)) pos)
 node:wr.heap[w.heap.size]?=Zo (Zc #[Zi Zk (k:Int),Zi Zk n.num,Zt n.text,Zs na n.names.length nc,Zs ka n.kids.length kc] 40 (0,0))
 below:Bw w wr
 le:pos<=(jz k).length
 fold:ja (jT m) n ((jz k).drop pos) r=ja (jT m) n (jz k) n
theorem gE {b:Nat} {c0 c1 c2 c3 c4:Zv} {t:TypeId} (h:w.heap[b]?=Zo (Zc #[c0,c1,c2,c3,c4] t (0,0))) :
  w.cell? ⟨b,0,Zn⟩=Zo c0/\w.cell? ⟨b,1,Zn⟩=Zo c1/\w.cell? ⟨b,2,Zn⟩=Zo c2/\w.cell? ⟨b,3,Zn⟩=Zo c3/\w.cell? ⟨b,4,Zn⟩=Zo c4:=by refine⟨?_,?_,?_,?_,?_⟩<;>simp[World.cell?,h]
theorem vv:∀k,k<44->∀p,p∈jz k->p.toNat<128:=by decide
theorem sW(l:List UInt8)(i:Nat)(h:i<(bs l).size):(bs l)[i]'h=l[i]'(by rw[go]at h;exact h):=by simp[bs,ByteArray.getElem_eq_getElem_data]
theorem sQ.step {wr:Zw} {n r:Nd (T m)} {k pos:Nat} (h:sQ S w wr m bk n r v3 v4 na ka nc kc k pos ib) (z:w.heap.size+2<=ib) (A:bk<w.heap.size) (B:Bd S w) (x:k<44)
  (s:pos<(jz k).length) :
  xj S (wr.iterAt ib (bs (jz k)) (pos+1)) m bk (w.heap.size+1) n r (Zi Zk (k:Int)) v3 v4 na ka nc kc /\
  (wr.iterAt ib (bs (jz k)) (pos+1)).heap[w.heap.size]?=wr.heap[w.heap.size]? /\
  (∀e o,hh S m (w.heap.size+1) n r (Zi Zk (k:Int)) (jz k)[pos] (wr.iterAt ib (bs (jz k)) (pos+1)) e o ->
   (∃v i g,e=Zr (Zb true)/\sQ S w o m bk n v i g na ka nc kc k (pos+1) ib)∨(e=Zr (Zb false)/\ja (jT m) n (jz k) n=Zn/\Bw w o)):=by
 have f:=h.off.mv (w':=wr.iterAt ib (bs (jz k)) (pos+1)) (ib:=ib) (by rw[Lib.iterAt_size];exact Zl _) (fun b _ C=>Lib.iterAt_other wr ib b _ _ C) (fun y=>by have:=B ib y;omega) om om;have t:(wr.iterAt ib (bs (jz k)) (pos+1)).heap[ib]?=Zo (.stringIter (bs (jz k)) (pos+1)):=Lib.iterAt_heap wr ib _ _ _ h.iter;have q:ib<wr.heap.size:=(Array.getElem?_eq_some_iff.1 h.iter).1;have a:Bw w (wr.iterAt ib (bs (jz k)) (pos+1)):=Lib.below_iterAt h.below om _ _;have l:(wr.iterAt ib (bs (jz k)) (pos+1)).heap[w.heap.size]?=wr.heap[w.heap.size]?:=Lib.iterAt_other wr ib _ _ _ om;have c:(jz k).drop pos=(jz k)[pos] :: (jz k).drop (pos+1):=(List.drop_eq_getElem_cons s);have j:GM (jz k)[pos]:=wL k x _ (Zg s);refine⟨f,l,?_⟩;rintro e o ⟨p,⟨v,i,g,d,rfl,u⟩|⟨d,rfl⟩⟩
 ·refine .inl ⟨v,i,g,rfl,f.next p u (xP j d),?_,?_,a.trans (p.below om a.size),s,?_⟩;·exact (p.block ib (by rw[Lib.iterAt_size];exact q) om).trans t
  ·exact (p.block w.heap.size (by rw[Lib.iterAt_size];omega) om).trans (l.trans h.node)
  ·have:=h.fold;rw[c,jC d]at this;exact this
 ·refine .inr ⟨rfl,?_,a.trans (p.below om a.size)⟩;have:=h.fold;rw[c,jd d]at this;exact this.symm
theorem AQ (S:Nat->Prop) (w:Zw) (m y:Nat) (n:Nd (T m)) (na d:Option Addr) (a c:Nat) (O:(Lit.int Zk n.sort).wf=true) (K:(Lit.int Zk n.num).wf=true) (h3:fL S w n.names (Zs na n.names.length a)) (H:n.names.length<=a)
  (h4:ig S w (fZ S w m) n.kids (Zs d n.kids.length c)) (ad:n.kids.length<=c) (hB:Bd S w) (o:kz w y) (hx:n.text.size<=1048576) :
  Calls prog 111 #[Zp (Zo ⟨y,0,Zn⟩),Za #[Zi Zk n.sort,Zi Zk n.num,Zt n.text,Zs na n.names.length a,Zs d n.kids.length c]] w fun e w'=>e=Zr (Zb (iu (jT m) n))/\Bw w w':=by
 have Y:Hid (∀w,Calls prog 37 #[Zi Zk n.sort] w _):=fun w=>ny n.sort w;have M:=(Below.refl w.heap.size w).alloc (Zl _) (Zc #[Zi Zk n.sort,Zi Zk n.num,Zt n.text,Zs na n.names.length a,Zs d n.kids.length c] 40);by_cases z:1<=n.sort/\n.sort<=43;case neg=>
  have X:rP n.sort=0:=by unfold rP;rw[if_pos om]
  have HF:Hid (iu (jT m) n=false):=by show _=_;unfold iu;rw[decide_eq_false z];rfl
  rw[X]at Y;clear h3 h4 o;go_in;go_wp2_with fail;refine (Y.out _).mono ?_;rintro e w1 ⟨rfl,rfl⟩;go_wp2;go_ret;exact⟨b6 HF.out.symm,M⟩
 have X:(rP n.sort==0)=false:=by
  have:rP n.sort=86∨rP n.sort=65:=by
   unfold rP;rw[if_neg om];split;·exact .inl rfl
   ·exact .inr rfl
  rcases this with h|h<;>rw[h]<;>rfl
 generalize rP n.sort=po at *;obtain⟨k,R⟩:∃k:Nat,n.sort=(k:Int):=⟨n.sort.toNat,om⟩;have g:k<44:=om;obtain⟨W,G⟩:=iw (((w.alloc (Zc #[Zi Zk (k:Int),Zi Zk n.num,Zt n.text,Zs na n.names.length a,Zs d n.kids.length c] 40)).alloc (Zc #[Zi Zk (k:Int),Zi Zk n.num,Zt n.text,Zs na n.names.length a,Zs d n.kids.length c] 40)).drew);have V:W.heap.size=w.heap.size+2:=by rw[G];simp
 have E:Bw w W:=by rw[G];exact ((gF _ _).alloc zS _).drew
 have q:Bw w (W.iter (bs (jz k)) 0):=E.alloc E.size _;have Z:jy S w (W.iter (bs (jz k)) 0):=a6 q hB;have l:=o.lt;have t:(W.iter (bs (jz k)) 0).heap[w.heap.size]?=Zo (Zc #[Zi Zk (k:Int),Zi Zk n.num,Zt n.text,Zs na n.names.length a,Zs d n.kids.length c] 40 (0,0)):=by refine (Below.heap_alloc _ _ _ om).trans ?_;rw[G];exact (Below.heap_alloc _ _ _ zS).trans (heap_alloc_last _ _)
 have v:(W.iter (bs (jz k)) 0).heap[w.heap.size+1]?=Zo (Zc #[Zi Zk (k:Int),Zi Zk n.num,Zt n.text,Zs na n.names.length a,Zs d n.kids.length c] 40 (0,0)):=by refine (Below.heap_alloc _ _ _ om).trans ?_;rw[G];have:=heap_alloc_last (w.alloc (Zc #[Zi Zk (k:Int),Zi Zk n.num,Zt n.text,Zs na n.names.length a,Zs d n.kids.length c] 40)) (Zc #[Zi Zk (k:Int),Zi Zk n.num,Zt n.text,Zs na n.names.length a,Zs d n.kids.length c] 40);rw[show (w.alloc (Zc #[Zi Zk (k:Int),Zi Zk n.num,Zt n.text,Zs na n.names.length a,Zs d n.kids.length c] 40)).heap.size=w.heap.size+1 by simp]at this;exact this
 have HJ:Hid (sQ S w (W.iter (bs (jz k)) 0) m y n n (Zs na n.names.length a) (Zs d n.kids.length c) na d a c k 0 (w.heap.size+2)):=by
  refine⟨⟨⟨v,h3.keep Z (fun _ h=>h),⟨_,_,_,rfl,H⟩,h4.keepN Z (fun _ h=>h),⟨_,_,_,rfl,ad⟩⟩,fun b hS=>?_,o.keep (q.block y l),om,h3.keep Z (fun _ h=>h),H,h4.keepN Z (fun _ h=>h),Zl _,hx,O,K,z⟩,?_,t,q,Nat.zero_le _,by rw[List.drop_zero]⟩;·have:=hB b hS;exact⟨Zd this q.size,om⟩
  ·rw[<- V];exact World.iter_heap _ _ _
 have HB:=a7 hB;have u:kz (w.alloc (Zc #[Zi Zk (k:Int),Zi Zk n.num,Zt n.text,Zs na n.names.length a,Zs d n.kids.length c] 40)) y:=o.keep (Below.heap_alloc _ _ _ l);have i:kz ((w.alloc (Zc #[Zi Zk (k:Int),Zi Zk n.num,Zt n.text,Zs na n.names.length a,Zs d n.kids.length c] 40)).alloc (Zc #[Zi Zk (k:Int),Zi Zk n.num,Zt n.text,Zs na n.names.length a,Zs d n.kids.length c] 40)) y:=u.keep (Below.heap_alloc _ _ _ zE);obtain⟨-,b1,-,-⟩:=i k g;have HW:=a7 G;have HK:=a7 R;have aa:Hid (∀ (L:Zw) (r:Nd (T m)) (v3 v4:Zv) (p:UInt8),GM p->xj S L m y (w.heap.size+1) n r (Zi Zk (k:Int)) v3 v4 na d a c ->
   Calls prog 147 #[Zp (Zo ⟨y,0,Zn⟩),Zp (Zo ⟨w.heap.size+1,0,Zn⟩),Zi .i32 (p.toNat:Int),Za #[Zi Zk (k:Int),Zi Zk n.num,Zt n.text,Zs na n.names.length a,Zs d n.kids.length c]] L (hh S m (w.heap.size+1) n r (Zi Zk (k:Int)) p L)):=by
  intro L r v3 v4 p B ho
  have:=vN S L m y (w.heap.size+1) n r _ v3 v4 na d a c p B ho
  rw[R]at this
  exact this
 have HF:Hid (iu (jT m) n=nY (ja (jT m) n (jz k) n)):=by show _=_;unfold iu;rw[decide_eq_true z,R];rfl
 rw[R]at Y ⊢;clear R h3 h4 hB o Z E q t v G M u i O K hx z;go_in;go_wp2_with fail;refine (Y.out _).mono ?_;rintro e w1 ⟨rfl,rfl⟩;go_wp2_with fail;go_region;rw[<- HW.out];clear b1 Y;go_wp2;go_loopw [7] (fun _ wr=>∃pos r v3 v4,sQ S w wr m y n r v3 v4 na d a c k pos (w.heap.size+2)) (fun _ wr=>(jz k).length-wr.iterPos (w.heap.size+2));case atStart=>exact⟨0,_,_,_,HJ.out⟩
 case round=>
  obtain⟨pos,r,v3,v4,j⟩:=hrel;have ag:=j.le;have s:=j.iter;have f:=iterPos_of s;by_cases B:pos<(jz k).length
  ·have A:=fun ty=>Lib.run_next_ascii_at (P:=prog) wr (w.heap.size+2) (bs (jz k)) pos ty s (by rw[go];exact B) (by rw[sW];exact vv k g _ (Zg B));rw[sW]at A;obtain⟨ho,Q,x⟩:=j.step (Zl _) l HB.out g B;have N:=Q.trans j.node;obtain⟨z0,z1,z2,z3,z4⟩:=gE N;have HC:=a7 (aa.out _ r v3 v4 _ (wL k g _ (Zg B)) ho);have F:=a7 x;have HI:Hid (wr.iterPos (w.heap.size+2)=pos):=f;clear j s f ho Q x N;go_wp2_with fail;refine HC.out.mono ?_;rintro e w2 hq;rcases F.out e w2 hq with ⟨r',af,ae,rfl,D⟩|⟨rfl,J,U⟩
   ·have ab:=a7 D;have ac:Hid (w2.iterPos (w.heap.size+2)=pos+1):=iterPos_of D.iter;clear hq D HC F z0 z1 z2 z3 z4 A;go_wp2;go_roundw;case rel=>exact⟨pos+1,_,_,_,ab.out⟩
    case measure=>rw[ac.out,HI.out];omega
   ·have I:Hid (iu (jT m) n=false/\Bw w w2):=⟨by rw[HF.out,J];rfl,U⟩;clear hq HC F z0 z1 z2 z3 z4 A J U;go_wp2;go_ret;exact⟨b6 I.out.1.symm,I.out.2⟩
  ·have A:=fun ty=>Lib.run_next_end_at (P:=prog) wr (w.heap.size+2) (bs (jz k)) pos ty s (by rw[go];exact B);have C:=j.fold;rw[List.drop_of_length_le om,ja]at C;have I:Hid (iu (jT m) n=((r.num==0) && r.text.toList.isEmpty && ((r.names.length:Int)==0) && ((r.kids.length:Int)==0))/\Bw w wr):=⟨by rw[HF.out,<- C];rfl,j.below⟩;obtain⟨⟨y1,y2,y3,y4⟩,-⟩:=j.off.rst.cells;obtain⟨xa,xl,xc,rfl,-⟩:=j.off.rst.k3;obtain⟨ya,yl,yc,rfl,-⟩:=j.off.rst.k4;obtain⟨_,_,hv,-⟩:=id j.off.rst.n3;cases hv
   obtain⟨_,_,hv,-⟩:=id j.off.rst.n4;cases hv
   clear j s f C;go_wp2_with fail;all_goals
    go_ret
    refine⟨b6 ?_,I.out.2⟩
    rw[I.out.1]
    first
     | simp[‹r.num=0›,‹r.text.toList=[]›,‹r.names=[]›]
     | simp[‹r.num=0›,‹r.text.toList=[]›,‹¬r.names=[]›]
     | simp[‹r.num=0›,‹¬r.text.toList=[]›]
     | simp[‹¬r.num=0›]
structure FI(w:Zw)(pb bb bk:Nat)(p:Int):Prop where
 parts:la w pb p
 bc:w.cell? ⟨bb,0,Zn⟩=Zo (Zp (Zo ⟨bk,0,Zn⟩))
 book:kz w bk
 nb:bb≠pb
 nk:bk≠pb
theorem FI.keep{a bb:Nat}{p q:Int}(h:FI w a bb bk p)(b:b7 a w w')(c:la w' a q):FI w' a bb bk q:=
 ⟨c,b.cell h.bc h.nb,h.book.keep (b.block bk h.book.lt h.nk),h.nb,h.nk⟩
theorem tY{p:α->Bool}{l:List α}(k:Nat)(h:k<l.length)(b:(l.take k).all p=true)(a:p l[k]=true):(l.take (k+1)).all p=true:=by rw[List.take_succ_eq_append_getElem h,List.all_append,b];simpa using a
theorem Gm (S:Nat->Prop) (m:Nat) (n:Nd (T m)) (na o:Option Addr) (k j a bb v:Nat) (d p:Int) (w:Zw) (t:(Lit.int Zk n.sort).wf=true) (s:(Lit.int Zk n.num).wf=true)
  (D:fL S w n.names (Zs na n.names.length k)) (r:n.names.length<=k) (B:ig S w (fZ S w m) n.kids (Zs o n.kids.length j)) (z:n.kids.length<=j) (u:∀b,S b->b<w.heap.size/\b≠a)
  (f:FI w a bb v p) (H:n.text.size<=1048576) (G:0<=p) (L:p<=200) :
  Calls prog 110 #[Za #[Zi Zk n.sort,Zi Zk n.num,Zt n.text,Zs na n.names.length k,Zs o n.kids.length j],Zi Zk d,Zp (Zo ⟨a,0,Zn⟩),Zp (Zo ⟨bb,0,Zn⟩)] w
   fun e q=>e=Zr (Zb (decide (p+1<=200) && decide (d<=24) && iu (jT m) n))/\la q a (p+1)/\b7 a w q:=by
 have K:=f.parts.lt;have l:b7 a w (w.setCell ⟨a,0,Zn⟩ (Zi Zk (p+1))):=b7.set a 0 _ (Zi Zk (p+1));have c:=l.trans (b7.alloc a _ (Zc #[Zi Zk n.sort,Zi Zk n.num,Zt n.text,Zs na n.names.length k,Zs o n.kids.length j] 40));have g:la ((w.setCell ⟨a,0,Zn⟩ (Zi Zk (p+1))).alloc (Zc #[Zi Zk n.sort,Zi Zk n.num,Zt n.text,Zs na n.names.length k,Zs o n.kids.length j] 40)) a (p+1):=(f.parts.set (p+1)).keep (gF _ _);have A:=c.same u;have C:Hid (Calls prog 111 _ _ _):=AQ S _ m v n na o k j t s (D.keep A (fun _ h=>h)) r (B.keepN A (fun _ h=>h)) z (fun b M=>Zd (u b M).1 c.size) (f.book.keep (c.block v f.book.lt f.nk)) H;have c0:=f.parts.cell;have f0:=f.parts.free;have F:=f.bc;have nm:=f.nb;have N:bb<w.heap.size:=b8 F;have E:w.heap.size≠a:=om;clear D B f l u A;by_cases J:p+1<=200
 ·by_cases I:d<=24;·go_in;go_wp2_with fail;refine C.out.mono ?_;rintro e q ⟨rfl,i⟩;have x:la q a (p+1):=(i.block a zE).trans g;have y:=c.trans (b7.of_below (bb:=a) i);clear i C;go_wp2;go_ret;exact⟨b6 (by simp[J,I]),x,y⟩
  ·go_in;go_wp2;go_ret;exact⟨b6 (by rw[decide_eq_false (show ¬d<=24 by omega)];simp),g,c⟩
 ·go_in;go_wp2;go_ret;exact⟨b6 (by rw[decide_eq_false (show ¬p+1<=200 by omega)];simp),g,c⟩
def oz(n:Nat)(t:T n)(d p:Int)(a:Nat)(w:Zw)(e:Ending)(w':Zw):Prop:=
 b7 a w w' /\ ∃r,e=Zr (Zb r)/\(r=true->gD n t d=true/\p+(fJ n t:Int)<=200/\la w' a (p+fJ n t))/\(r=false->¬(gD n t d=true/\p+(fJ n t:Int)<=200))
def Jq(a bb:Nat):Zv:=.func (.func 110) #[] #[Zp (Zo ⟨a,0,Zn⟩),Zp (Zo ⟨bb,0,Zn⟩)]
def qL(n:Nat):Prop:=∀(S:Nat->Prop)(t:T n)(c0 c1 c2 c3 c4:Zv)(d p:Int)(a c e:Nat)(w:Zw),fZ S w n t c0 c1 c2 c3 c4->(∀b,S b->b<w.heap.size/\b≠a)->FI w a c e p->kr n t<=1048576->0<=p->p<=200->1<=d->d<=25 ->
 Calls prog 109 #[Za #[c0,c1,c2,c3,c4],Zi Zk d,Jq a c] w (oz n t d p a w)
theorem Ea(a b c d e:Zv)(i:∃x l k,e=Zs x l k)(w:Zw):Calls prog 286 #[Za #[a,b,c,d,e]] w fun h g=>h=Zr e/\Bw w g:=by obtain⟨x,l,k,rfl⟩:=i;have f:=(Below.refl w.heap.size w).alloc (Zl _) (Zc #[a,b,c,d,Zs x l k] 40);go_in;go_wp2;go_ret;exact⟨rfl,f⟩
theorem Ei {n:Nat} {t:T (n+1)} {d p:Int} (k:Nat) (a:k<(Nd.kids t).length)
  (h:¬(gD n (Nd.kids t)[k] (d+1)=true/\p+1+(b5 (fun x=>fJ n x) ((Nd.kids t).take k):Int)+(fJ n (Nd.kids t)[k]:Int)<=200)):¬(gD (n+1) t d=true/\p+(fJ (n+1) t:Int)<=200):=by rintro ⟨b,c⟩;apply h;simp only[gD,Bool.and_eq_true,List.all_eq_true]at b;refine⟨b.2 _ (Zg a),?_⟩;have e:=fY (fun x=>fJ n x) (Nd.kids t) k a;have f:=im (fun x=>fJ n x) ((Nd.kids t).take (k+1)) ((Nd.kids t).drop (k+1));rw[List.take_append_drop]at f;simp only[fJ]at c;omega
theorem AV(n:Nat)(hn:qL n):qL (n+1):=by
 intro S t c0 c1 c2 c3 c4 d p u bb bk w ht K j P ao ad ax ay;obtain⟨rfl,rfl,rfl,aA,ag,ak,h3,h4,⟨na,nl,nc,rfl,aj⟩,⟨ka,kl,kc,rfl,af⟩⟩:=ht;obtain⟨_,_,hv,-⟩:=id h3;cases hv
 obtain⟨_,_,hv,ac,-⟩:=id h4;cases hv
 have am:(Nd.text t).size<=1048576:=by simp only[kr]at P;omega
 have ap:Hid (∀k (h:k<(Nd.kids t).length),kr n (Nd.kids t)[k]<=1048576):=fun k h=>by have:=gX (fun k=>kr n k+1) (Nd.kids t) _ (Zg h);simp only[kr]at P;omega
 clear P;unfold maxLen at ac;have l:=j.parts.lt;have N:=(Below.refl w.heap.size w).alloc (Zl _) (Zc #[Zi Zk (Nd.sort t),Zi Zk (Nd.num t),Zt (Nd.text t),Zs na (Nd.names t).length nc,Zs ka (Nd.kids t).length kc] 40);have z:b7 u w (w.alloc (Zc #[Zi Zk (Nd.sort t),Zi Zk (Nd.num t),Zt (Nd.text t),Zs na (Nd.names t).length nc,Zs ka (Nd.kids t).length kc] 40)):=b7.of_below N;have ab:=h3.keep (z.same K) (fun _ h=>h);have C:=h4.keepN (z.same K) (fun _ h=>h);have X:Hid (Calls prog 110 _ _ _):=Gm S n (show Nd (T n) from t) na ka nc kc u bb bk d p _ ag ak ab aj C af (fun b J=>by have:=K b J;simp;omega) (j.keep z (j.parts.keep N)) am ao ad;clear C;unfold Jq;go_in;go_wp2_with fail;refine X.out.mono ?_;rintro e w1 ⟨rfl,O,f⟩;have y:=z.trans f;have U:=j.keep y O;have av:=y.size;have au:w.heap.size<w1.heap.size:=by have:=f.size;simp at this;omega
 have k0:w1.cell? ⟨w.heap.size,0,Zn⟩=Zo (Zi Zk (Nd.sort t)):=f.cell (by simp[go_sem]) om;have k1:w1.cell? ⟨w.heap.size,1,Zn⟩=Zo (Zi Zk (Nd.num t)):=f.cell (by simp[go_sem]) om;have k2:w1.cell? ⟨w.heap.size,2,Zn⟩=Zo (Zt (Nd.text t)):=f.cell (by simp[go_sem]) om;have k3:w1.cell? ⟨w.heap.size,3,Zn⟩=Zo (Zs na (Nd.names t).length nc):=f.cell (by simp[go_sem]) om;have k4:w1.cell? ⟨w.heap.size,4,Zn⟩=Zo (Zs ka (Nd.kids t).length kc):=f.cell (by simp[go_sem]) om;have C:=h4.keepN (y.same K) (fun _ h=>h);clear X z N ab f h3 h4;generalize m:(decide (p+1<=200) && decide (d<=24) && iu (jT n) (show Nd (T n) from t))=ok;cases ok with
 | false=>
  have HP:Hid (oz (n+1) t d p u w (Zr (Zb false)) w1):=by
   refine⟨y,false,rfl,fun h=>(by cases h),fun _=>?_⟩;rintro ⟨W,hc⟩;simp only[gD,Bool.and_eq_true,decide_eq_true_eq]at W;have ha:iu (jT n) (show Nd (T n) from t)=true:=W.1.2;have:p+1<=200:=by simp only[fJ]at hc;omega
   rw[ha,decide_eq_true W.1.1,decide_eq_true this]at m;cases m
  clear m;go_wp2;go_ret;exact HP.out
 | true=>
  simp only[Bool.and_eq_true,decide_eq_true_eq]at m;have an:Hid ((decide (d<=24) && iu (jT n) (show Nd (T n) from t))=true):=by show _=_;rw[m.2,decide_eq_true m.1.2];rfl
  obtain⟨⟨ai,ar⟩,-⟩:=m;go_wp2_with fail;refine (Ea _ _ _ _ _ ⟨_,_,_,rfl⟩ _).mono ?_;rintro e w2 ⟨rfl,B⟩;have Z:b7 u w w2:=y.trans (b7.of_below B);have al:la w2 u (p+1):=O.keep B;have az:=B.size;have h5:=C.keepN ((b7.of_below (bb:=u) B).same (fun b J=>by have:=K b J;omega)) (fun _ h=>h);clear C B U y O k0 k1 k2 k3 k4;obtain⟨_,_,ah,-,s⟩:=h5;cases ah
  go_wp2;go_loopw [18] (fun i wr=>∃ k:Nat,k<=(Nd.kids t).length/\i=Zi Zk k/\b7 u w2 wr/\la wr u (p+1+(b5 (fun x=>fJ n x) ((Nd.kids t).take k):Int)) /\
    p+1+(b5 (fun x=>fJ n x) ((Nd.kids t).take k):Int)<=200/\((Nd.kids t).take k).all (fun x=>gD n x (d+1))=true) (fun i _=>(Nd.kids t).length-(intOf i).toNat)
  case atStart=>exact⟨0,Nat.zero_le _,rfl,b7.refl _ _,by simpa [b5] using al,by simpa [b5] using ai,zS⟩
  case round=>
   obtain⟨k,hk,rfl,c,o,a,M⟩:=hrel;have g:=a7 M;clear M;have aw:=c.size;have F:=Z.trans c;have aq:=o.lt;by_cases l:k<(Nd.kids t).length
   ·obtain⟨b,off,rfl,ae,D⟩:=s (by intro h;rw[h]at l;simp at l);obtain⟨x0,x1,x2,x3,x4,e0,e1,e2,e3,e4,hr⟩:=D k l;have E:=K b ae;have f0:=c.cell e0 E.2;have f1:=c.cell e1 E.2;have f2:=c.cell e2 E.2;have f3:=c.cell e3 E.2;have f4:=c.cell e4 E.2;have q:=hr.keep (c.same (fun b J=>by have:=K b J;omega)) (fun _ h=>h);obtain⟨y0,y1,y2,ya,yl,yc,za,zl,zc,rfl,rfl,rfl,rfl,rfl⟩:=q.shape;clear s D e0 e1 e2 e3 e4 hr;have V:=(Below.refl wr.heap.size wr).alloc (Zl _) (Zc #[Zi Zk y0,Zi Zk y1,Zt y2,Zs ya yl yc,Zs za zl zc] 40);have G:b7 u wr (wr.alloc (Zc #[Zi Zk y0,Zi Zk y1,Zt y2,Zs ya yl yc,Zs za zl zc] 40)):=b7.of_below V;have q5:=q.keep (G.same (fun b J=>by have:=K b J;omega)) (fun _ h=>h);have I:=j.keep (F.trans G) (o.keep V);have X:Hid (Calls prog 109 _ _ _):=hn S (Nd.kids t)[k] _ _ _ _ _ (d+1) _ u bb bk _ q5 (fun b J=>by have:=K b J;simp;omega) I (ap.out k l) om a om om;have H:=@Ei n t d p k l;have v:Hid (b5 (fun x=>fJ n x) ((Nd.kids t).take (k+1))=b5 (fun x=>fJ n x) ((Nd.kids t).take k)+fJ n (Nd.kids t)[k]):=fY _ _ _ l;clear q q5 I V;unfold Jq at X;go_wp2_with fail;refine X.out.mono ?_;rintro e w3 ⟨Q,r,rfl,A,R⟩;have L:=c.trans (G.trans Q);cases r with
    | false=>have HP:Hid (oz (n+1) t d p u w (Zr (Zb false)) w3):=⟨Z.trans L,false,rfl,fun h=>(by cases h),fun _=>H (R rfl)⟩;clear H R A v g Q L G F;go_wp2;go_ret;exact HP.out
    | true=>
     obtain⟨W,hc,Y⟩:=A rfl;have HR:Hid (b7 u w2 w3/\la w3 u (p+1+(b5 (fun x=>fJ n x) ((Nd.kids t).take (k+1)):Int))/\p+1+(b5 (fun x=>fJ n x) ((Nd.kids t).take (k+1)):Int)<=200/\((Nd.kids t).take (k+1)).all (fun x=>gD n x (d+1))=true):=by
      refine⟨L,?_,?_,tY k l g.out W⟩;·rw[v.out,show p+1+((b5 (fun x=>fJ n x) ((Nd.kids t).take k)+fJ n (Nd.kids t)[k]:Nat):Int)=p+1+(b5 (fun x=>fJ n x) ((Nd.kids t).take k):Int)+(fJ n (Nd.kids t)[k]:Int) by omega];exact Y
      ·rw[v.out];omega
     clear H R A v g Q L G F W hc Y o a;go_wp2;go_roundw;case rel=>exact⟨k+1,om,by go_num,HR.out.1,HR.out.2.1,HR.out.2.2.1,HR.out.2.2.2⟩
     case measure=>simp[intOf];omega
   ·have aa:k=(Nd.kids t).length:=by omega
    have HP:Hid (oz (n+1) t d p u w (Zr (Zb true)) wr):=by
     have h1:=g.out;rw[aa,List.take_length]at h1 o a;have e:p+1+(b5 (fun x=>fJ n x) (Nd.kids t):Int)=p+(fJ (n+1) t:Int):=by simp only[fJ];omega
     rw[e]at o a;exact⟨F,true,rfl,fun _=>⟨by have:=an.out;simp only[gD,this,h1,Bool.and_self],a,o⟩,fun h=>(by cases h)⟩
    clear aa s g F o a;go_wp2;go_ret;exact HP.out
theorem Dg:∀n,qL n:=by
 intro n;induction n with
 | zero=>intro S t c0 c1 c2 c3 c4 d p f e c w a;exact a.elim
 | succ n b=>exact AV n b
end Go.Proofs.YtcfojmaccikgeaaGreatDoor
