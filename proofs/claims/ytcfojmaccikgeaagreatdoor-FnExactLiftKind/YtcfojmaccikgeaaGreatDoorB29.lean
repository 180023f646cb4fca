import Derived.Test.YtcfojmaccikgeaaGreatDoorB26
import Derived.Test.YtcfojmaccikgeaaGreatDoorB27
open Go.Value renaming slice→Zs,int→Zi,string→Zt,pointer→Zp,tuple→Zu
open Option renaming none→Zn,some→Zo
open Go renaming Value→Zv
open Array renaming getElem?_eq_some_iff→ZF
namespace Go.Proofs.YtcfojmaccikgeaaGreatDoor
open Go.RowKit Go.Proofs.Tryz
set_option maxRecDepth 100000
set_option maxHeartbeats 16000000
variable {B wb bk:Nat} {w0 w w1 w':World} {v:Zv} {l:List UInt8}
structure lp(B wb bk:Nat)(w0 w:World)(v:Zv)(l:List UInt8):Prop where
 own:w.ownsRow B 5 1 v l.length (Lib.byteCells l)
 below:Below B w0 w
 le:B<=w.heap.size
 kept:Lib.OthersKept 5 (Zo wb) w0 w
 box:w.heap[wb]?=Zo (.cells #[Zp (Zo ⟨bk,0,Zn⟩),v] 219 (0,0))
 ge:B<=wb
theorem lp.here(h:lp B wb bk w0 w v l):lp B wb bk w w v l:=⟨h.own,Below.refl _ _,h.le,Lib.OthersKept.refl _ _ _,h.box,h.ge⟩
theorem lp.from{v0:Zv}{b:List UInt8}(h:lp B wb bk w1 w v l)(a:lp B wb bk w0 w1 v0 b):lp B wb bk w0 w v l:=⟨h.own,a.below.trans h.below,h.le,a.kept.trans h.kept,h.box,h.ge⟩
theorem lp.buf(h:lp B wb bk w0 w v l):iR B w w v l:=⟨h.own,Below.refl _ _,h.le,Lib.OthersKept.refl _ _ _⟩
theorem zA{e:TypeId}{b:Option Nat}(h:Lib.OthersKept e Zn w w'):Lib.OthersKept e b w w':=fun k o a _ c=>h k o a zS c
theorem DB{x:Zv}{n:Nat}{xs:List Zv}{o:Obj}(h:w.ownsRow B 5 1 v n xs)(f:w.heap[wb]?=Zo o)(k:∀c fz,o≠.cells c 5 fz)(i:Nat):(w.setCell ⟨wb,i,Zn⟩ x).ownsRow B 5 1 v n xs:=by
 refine⟨h.1,?_⟩;rcases h.2 with p|⟨g,cap,a,l,b,d,j⟩;·exact .inl p
 ·refine .inr ⟨g,cap,a,l,b,?_,j⟩;rw[Below.heap_setCell _ _ _ _ (fun e=>?_)];·exact d
  ·have m:g=wb:=e;subst m;rw[d]at f;exact k _ _ (Option.some.inj f).symm
theorem lp.took{d:Zv}{f:List UInt8}(h:lp B wb bk w0 w v l)(a:iR B w w1 d f):lp B wb bk w0 (w1.setCell ⟨wb,1,Zn⟩ d) d f:=by have b:w1.heap[wb]?=Zo (.cells #[Zp (Zo ⟨bk,0,Zn⟩),v] 219 (0,0)):=a.kept wb _ h.box zS (fun c fz e=>by cases e);exact⟨DB a.own b (fun c fz e=>by cases e) 1,(h.below.trans a.below).setCell h.ge _,by have:=a.le;simpa using this,(h.kept.trans (zA a.kept)).setCell _ rfl _,lF b _,h.ge⟩
theorem lp.lt(h:lp B wb bk w0 w v l):wb<w.heap.size:=(ZF.1 h.box).1
theorem lp.alloc(h:lp B wb bk w0 w v l)(o:Obj):lp B wb bk w0 (w.alloc o) v l:=
 ⟨h.own.alloc o,h.below.alloc h.le o,by have:=h.le;simp;omega,h.kept.alloc o,(Below.heap_alloc _ _ _ h.lt).trans h.box,h.ge⟩
theorem lp.drew(h:lp B wb bk w0 w v l):lp B wb bk w0 w.drew v l:=
 ⟨h.own.drew,h.below.drew,h.le,h.kept.drew,h.box,h.ge⟩
theorem lp.on(h:lp B wb bk w0 w v l)(a:Bw w w'):lp B wb bk w0 w' v l:=by
 refine⟨⟨h.own.1,?_⟩,h.below.trans (a.mono h.le),Nat.le_trans h.le a.size,h.kept.trans (fun k o e _ _=>(a.block k (ZF.1 e).1).trans e),(a.block wb h.lt).trans h.box,h.ge⟩;rcases h.own.2 with j|⟨g,cap,b,i,c,d,f⟩;·exact .inl j
 ·exact .inr ⟨g,cap,b,i,c,(a.block g (ZF.1 d).1).trans d,f⟩
theorem lp.cells(h:lp B wb bk w0 w v l):w.cell? ⟨wb,0,Zn⟩=Zo (Zp (Zo ⟨bk,0,Zn⟩))/\w.cell? ⟨wb,1,Zn⟩=Zo v/\w.frozen? ⟨wb,1,Zn⟩=false:=by have:=h.box;refine⟨?_,?_,?_⟩<;>simp[World.cell?,World.frozen?,this]
def nS(B d b:Nat)(w:World)(k:Nat)(e:Ending)(w':World):Prop:=e=.returned (Zu #[])/\∃c a,lp B d b w w' c a/\a.length=k
theorem l8 (B b z:Nat) (w:World) (v:Zv) (l:List UInt8) (s:ByteArray) (h:lp B b z w w v l) (N:l.length+1+s.size<=900000) :
  Calls prog 186 #[Zp (Zo ⟨b,0,Zn⟩),Zt s] w (nS B b z w (wk l.length s.size)):=by
 obtain⟨A,x,D,rfl⟩:=h.buf.shape;obtain⟨-,c1,f1⟩:=h.cells;have y:x=l.length:=by
  rcases h.own.2 with ⟨F,p⟩|⟨g,cap,Q,F,-⟩;·cases F;exact p.symm
  ·cases F;rfl
 by_cases p:l.length=0
 ·obtain rfl:x=0:=by omega
  have u:=a7 h.buf;have C:Hid (wk l.length s.size=s.size/\l.length=0):=⟨by simp[wk,p],p⟩;have d:l.length+s.size<=1000000:=om;clear p y N;go_in;go_wp2_with (at_builtin;refine gO rfl (.tmp 23) (.tmp 24) 9 rfl underlying9 B (Zs A 0 D) l rfl w u.out s rfl d ?_;intro O w1 a;obtain⟨j,f,k,rfl⟩:=a.shape;refine Hid.out ?_);refine Lib.hid ?_;have q:=h.took a;have o:=a.kept b _ h.box zS (fun c fz e=>by cases e);have M:w1.cell? ⟨b,1,Zn⟩=Zo (Zs A 0 D):=by simp[World.cell?,o]
  have L:w1.frozen? ⟨b,1,Zn⟩=false:=by simp[World.frozen?,o]
  have K:Hid (nS B b z w (wk l.length s.size) (.returned (Zu #[])) (w1.setCell ⟨b,1,Zn⟩ (Zs j f k))):=⟨rfl,_,_,q,by rw[List.length_append,C.out.1,C.out.2];simp⟩;clear a q h u o;go_wp2_with fail;refine bodyPost_end (results_none rfl _ _ _) rfl ?_;exact K.out
 ·have P:(0:Int)<(x:Int):=by omega
  have u:=a7 h.buf;have C:Hid (wk l.length s.size=l.length+1+s.size):=jN om _;have d:l.length<=1000000:=om;have m:(l++[32]).length+s.size<=1000000:=zE;clear p y N;go_in;go_wp2_with (at_builtin;refine fU rfl (.tmp 14) (.tmp 15) rfl B (Zs A x D) l rfl w w 32 32 rfl u.out rfl d ?_;intro O w1 a;obtain⟨j,f,k,rfl⟩:=a.shape;refine Hid.out ?_);refine Lib.hid ?_;have q:=h.took a;have o:=a.kept b _ h.box zS (fun c fz e=>by cases e);have M:w1.cell? ⟨b,1,Zn⟩=Zo (Zs A x D):=by simp[World.cell?,o]
  have L:w1.frozen? ⟨b,1,Zn⟩=false:=by simp[World.frozen?,o]
  have E:=a7 q;have t:=a7 q.buf;clear a q h u o;go_wp2_with (at_builtin;refine gO rfl (.tmp 23) (.tmp 24) 9 rfl underlying9 B (Zs j f k) (l++[32]) rfl _ t.out s rfl m ?_;intro v2 H i;obtain⟨G,J,I,rfl⟩:=i.shape;refine Hid.out ?_);refine Lib.hid ?_;have r:=E.out.took i;have n:=i.kept b _ E.out.box zS (fun c fz e=>by cases e);have R:H.cell? ⟨b,1,Zn⟩=Zo (Zs j f k):=by simp[World.cell?,n]
  have S:H.frozen? ⟨b,1,Zn⟩=false:=by simp[World.frozen?,n]
  have K:Hid (nS B b z w (wk l.length s.size) (.returned (Zu #[])) (H.setCell ⟨b,1,Zn⟩ (Zs G J I))):=⟨rfl,_,_,r,by rw[List.length_append,List.length_append,C.out];simp⟩;clear i r E t n M L;go_wp2_with fail;refine bodyPost_end (results_none rfl _ _ _) rfl ?_;exact K.out
def Cd(m:Nat):Prop:=∀(B c a:Nat)(w:World)(v:Zv)(l:List UInt8)(t:T m)(c0 c1 c2 c3 c4:Zv)(d:Int),lp B c a w w v l->fZ (fun b=>b<B) w m t c0 c1 c2 c3 c4->kz w a->a<B->gD m t d=true ->
 wk l.length (gx m t)<=800000->qo B w->Calls prog 148 #[Zp (Zo ⟨c,0,Zn⟩),.agg #[c0,c1,c2,c3,c4]] w (nS B c a w (wk l.length (gx m t)))
theorem ll(k x:Nat):k+x<=wk k x:=by unfold wk;split<;>omega
theorem xM{α:Type}(d:α->Nat):∀(b:List ByteArray)(c:List α)(k:Nat),k<=i6 d b c k:=by
 intro b;induction b with
 | nil=>intro c k;simp[i6]
 | cons a b e=>
  intro c k;cases c with
  | nil=>simp[i6]
  | cons x r=>rw[i6];have g:=e r (wk (wk k a.size) (d x));have f:=ll (wk k a.size) (d x);have h:=ll k a.size;omega
theorem lp.same(h:lp B wb bk w0 w v l):jy (fun b=>b<B) w0 w:=fun b a=>h.below.block b a
theorem Bc (m:Nat) (hn:Cd m) (B t r:Nat) (w:World) (v:Zv) (l:List UInt8) (n:Nd (T m)) (na ka:Option Addr) (nc Y:Nat) (d:Int) (h:lp B t r w w v l)
  (h3:fL (fun b=>b<B) w n.names (Zs na n.names.length nc)) (h4:ig (fun b=>b<B) w (fZ (fun b=>b<B) w m) n.kids (Zs ka n.kids.length Y)) (ak:n.names.length=n.kids.length) (R:kz w r) (K:r<B)
  (hg:n.kids.all (fun x=>gD m x d)=true) (hl:i6 (gx m) n.names n.kids l.length<=800000) (hT:qo B w) :
  Calls prog 189 #[Zp (Zo ⟨t,0,Zn⟩),.agg #[Zi .i64 n.sort,Zi .i64 n.num,Zt n.text,Zs na n.names.length nc,Zs ka n.kids.length Y]] w (nS B t r w (wk (i6 (gx m) n.names n.kids l.length) 3)):=by
 obtain⟨W,hW⟩:=iw (w.alloc (.cells #[Zi .i64 n.sort,Zi .i64 n.num,Zt n.text,Zs na n.names.length nc,Zs ka n.kids.length Y] 40));have C:lp B t r w W v l:=by rw[hW];exact h.alloc _
 have A:W.heap[w.heap.size]?=Zo (.cells #[Zi .i64 n.sort,Zi .i64 n.num,Zt n.text,Zs na n.names.length nc,Zs ka n.kids.length Y] 40 (0,0)):=by rw[hW];exact heap_alloc_last _ _
 have ao:=h.lt;have M:=C.same;obtain⟨_,_,hv,af,ap,I⟩:=h3.keep M (fun _ h=>h);cases hv
 obtain⟨_,_,hv,ad,L⟩:=h4.keepN M (fun _ h=>h);cases hv
 have U:kz W r:=R.keep (C.below.block r K);have aj:qo B W:=hT.on C.below;have HG:Hid (∀k (h:k<n.kids.length),gD m n.kids[k] d=true):=fun k h=>List.all_eq_true.1 hg _ (List.getElem_mem h);have HL:Hid (i6 (gx m) n.names n.kids l.length<=800000):=hl;have ac:=a7 C;have am:n.names.length<=n.kids.length:=om;have an:n.kids.length<=n.names.length:=om;have Q:=a7 hW;unfold maxLen at af ad;clear hg hl h3 h4 ak R hT h M C hW;obtain⟨q0,q1,q2,q3,q4⟩:=gE A;rw[Q.out]at q0 q1 q2 q3 q4;go_in;go_wp2_with fail;rw[<- Q.out];clear q0 q1 q2 q3 q4;go_loopw [9] (fun i wr=>∃(k:Nat)(v':Zv)(u:List UInt8),k<=n.names.length/\i=Zi .i64 k/\lp B t r W wr v' u/\Hid (i6 (gx m) (n.names.drop k) (n.kids.drop k) u.length=i6 (gx m) n.names n.kids l.length)) (fun i _=>n.names.length-(intOf i).toNat);case atStart=>exact⟨0,v,l,Nat.zero_le _,rfl,ac.out.here,by rw[List.drop_zero,List.drop_zero];exact rfl⟩
 case round=>
  obtain⟨k,v',u,hk,rfl,g,HE⟩:=hrel;have N:=(g.kept w.heap.size _ A zE (fun c fz e=>by cases e));obtain⟨z0,z1,z2,z3,z4⟩:=gE N;by_cases G:k<n.names.length
  ·obtain⟨b,off,rfl,ag,E⟩:=I (by intro h;rw[h]at G;simp at G);have e0:=kC g.below (E k G) ag;have J:k<n.kids.length:=om;obtain⟨P,j,rfl,p,s⟩:=L (by intro h;have:=List.length_eq_zero_iff.2 h;omega);obtain⟨d0,d1,d2,d3,d4,k0,k1,k2,k3,k4,O⟩:=s k J;obtain⟨x0,x1,x2,xa,xl,xc,ya,yl,yc,rfl,rfl,rfl,rfl,rfl⟩:=O.shape;have HS:Hid (i6 (gx m) (n.names.drop (k+1)) (n.kids.drop (k+1)) (wk (wk u.length n.names[k].size) (gx m n.kids[k]))=i6 (gx m) n.names n.kids l.length):=by have:=HE.out;rw[List.drop_eq_getElem_cons G,List.drop_eq_getElem_cons J,i6]at this;exact this
   have S:=xM (gx m) (n.names.drop (k+1)) (n.kids.drop (k+1)) (wk (wk u.length n.names[k].size) (gx m n.kids[k]));rw[HS.out]at S;have hL:=HL.out;have g1:=ll (wk u.length n.names[k].size) (gx m n.kids[k]);have g2:=ll u.length n.names[k].size;have z:Hid (Calls prog 186 _ wr _):=l8 B t r wr v' u n.names[k] g.here om;have aa:Hid (∀o v2 y,lp B t r wr o v2 y->y.length=wk u.length n.names[k].size->Calls prog 148 #[Zp (Zo ⟨t,0,Zn⟩),.agg #[Zi .i64 x0,Zi .i64 x1,Zt x2,Zs xa xl xc,Zs ya yl yc]] o (nS B t r o (wk (wk u.length n.names[k].size) (gx m n.kids[k])))):=by intro o v2 y a q;have f:=a.from g;have:=hn B t r o v2 y n.kids[k] _ _ _ _ _ d a.here (O.keep f.same (fun _ h=>h)) (U.keep (f.below.block r K)) K (HG.out k J) (by rw[q];omega) (aj.on f.below);rw[q]at this;exact this
   have HK:Hid (∀o v2 y,lp B t r wr o v2 y->(o.cell? ⟨w.heap.size,4,Zn⟩=Zo (Zs (Zo ⟨P,j,Zn⟩) n.kids.length Y)/\o.cell? ⟨P,j+k*5,Zn⟩=Zo (Zi .i64 x0)/\o.cell? ⟨P,j+k*5+1,Zn⟩=Zo (Zi .i64 x1)/\o.cell? ⟨P,j+k*5+2,Zn⟩=Zo (Zt x2)/\o.cell? ⟨P,j+k*5+3,Zn⟩=Zo (Zs xa xl xc)/\o.cell? ⟨P,j+k*5+4,Zn⟩=Zo (Zs ya yl yc))):=by intro o v2 y a;have f:=a.from g;have ai:=gE (f.kept w.heap.size _ A zE (fun c fz e=>by cases e));exact⟨ai.2.2.2.2,kC f.below k0 p,kC f.below k1 p,kC f.below k2 p,kC f.below k3 p,kC f.below k4 p⟩
   have F:=a7 g;clear I L E s O N S g1 g2 hL g k0 k1 k2 k3 k4 HE;have aq:(k:Int)<(n.kids.length:Int):=om;generalize n.names[k]=nm at *;go_wp2_with fail;refine z.out.mono ?_;rintro e o ⟨rfl,v2,y,a,q⟩;have V:=a7 (aa.out o v2 y a q);obtain⟨y4,k0,k1,k2,k3,k4⟩:=HK.out o v2 y a;have X:=a7 a;clear a z aa HK z0 z1 z2 z3 z4 e0;go_wp2_with fail;refine V.out.mono ?_;rintro e w3 ⟨rfl,v3,l3,ab,H⟩;have ae:=a7 ((ab.from X.out).from F.out);have ah:Hid (i6 (gx m) (n.names.drop (k+1)) (n.kids.drop (k+1)) l3.length=i6 (gx m) n.names n.kids l.length):=by show _=_;rw[H];exact HS.out
   clear ab V y4 k0 k1 k2 k3 k4 X F HS H q;go_wp2;go_roundw;case rel=>exact⟨k+1,v3,l3,om,by go_num,ae.out,ah⟩
   case measure=>simp[intOf];omega
  ·have Z:k=n.names.length:=by omega
   have D:u.length=i6 (gx m) n.names n.kids l.length:=by have:=HE.out;rw[Z,List.drop_length]at this;simpa [i6] using this
   have z:Hid (Calls prog 186 _ wr _):=l8 B t r wr v' u ⟨#[101,110,100]⟩ g.here (by rw[D];have:=HL.out;show _+3<=_;omega);have F:=a7 (g.from ac.out);have al:=a7 D;clear I L N g Z D HE z0 z1 z2 z3 z4;go_wp2_with fail;refine z.out.mono ?_;rintro e o ⟨rfl,v2,y,a,q⟩;have HP:Hid (nS B t r w (wk (i6 (gx m) n.names n.kids l.length) 3) (.returned (Zu #[])) o):=⟨rfl,v2,y,a.from F.out,by rw[q,al.out];rfl⟩;clear a q z;go_wp2_with fail;refine bodyPost_end (results_none rfl _ _ _) rfl ?_;exact HP.out
end Go.Proofs.YtcfojmaccikgeaaGreatDoor
