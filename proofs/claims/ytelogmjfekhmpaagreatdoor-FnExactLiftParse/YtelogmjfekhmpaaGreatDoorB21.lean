import Derived.Test.YtelogmjfekhmpaaGreatDoorB20
import Derived.Test.YtelogmjfekhmpaaGreatDoorB17
import Derived.Test.YtelogmjfekhmpaaGreatDoorCopyN
import Derived.Test.YtelogmjfekhmpaaGreatDoorB9
import Derived.Test.YtelogmjfekhmpaaGreatDoorB1
import Derived.Deep.RegionLaw
import Derived.Deep.RegionWith
import Derived.Deep.Cut
import Derived.WalkSmall
import Derived.LoopTactic
namespace Go.Proofs.YtelogmjfekhmpaaGreatDoor
open Go.RowKit Go.Proofs.Tryz
def spKL:(n:Nat)->K n->Nat
 | 0,_=>0
 | n+1,t=>(Kd.names t).length+sumL (fun k=>1+spKL n k) (Kd.kids t)
structure KOutLoop(X n:Nat)(ks:List (K n))(s:Int)(nv:Value)(w1:World)(k:Nat)(v:Value)(wr:World):Prop where
 near:Near X w1 wr
 box:wr.heap[X]?=some (.cells #[.int .i64 s,nv,v] 55 (0,0))
 row:∃xs Ps,wr.ownsRow w1.heap.size 55 3 v k xs/\Ps.length=k/\qlE (fun b=>w1.heap.size<=b/\b<wr.heap.size/\v.ownBlock≠some b) wr n ks xs Ps/\Ps.flatten.length+k=sumL (fun x=>1+spKL n x) (ks.take k)
theorem xcN {X n:Nat} {ks:List (K n)} {s:Int} {nv:Value} {w1 wr W w2 w3:World} {k g cap:Nat} {v:Value} {xs:List Value} {Ps:List (List Spot)} {one:Obj} {c0 c1 c2:Value} {L3 L4:List Spot} (h:Near X w1 wr) (hX:X<w1.heap.size)
  (hbox:wr.heap[X]?=some (.cells #[.int .i64 s,nv,v] 55 (0,0))) (hk:k<ks.length)
  (hown:wr.ownsRow w1.heap.size 55 3 v k xs) (hpl:Ps.length=k) (hko:qlE (fun b=>w1.heap.size<=b/\b<wr.heap.size/\v.ownBlock≠some b) wr n ks xs Ps) (hln:Ps.flatten.length+k=sumL (fun x=>1+spKL n x) (ks.take k))
  (hW:W.heap=wr.heap) (hWo:W.os=wr.os/\W.tape=wr.tape/\W.output=wr.output)
  (hb2:Below W.heap.size W w2) (hin:KindIn (fun b=>wr.heap.size<=b/\b<w2.heap.size) w2 n ks[k] c0 c1 c2) (h3:SpN w2 c1 L3) (h4:SpK w2 (n-1) c2 L4) (ho:Own (fun b=>wr.heap.size<=b/\b<w2.heap.size) (L3++L4)) (hl:(L3++L4).length=spKL n ks[k])
  (hown':w3.ownsRow w1.heap.size 55 3 (.slice (some ⟨g,0,none⟩) (k+1) cap) (k+1) (xs++[c0,c1,c2])) (hgrow:(w2.alloc one).grownBy w3 v.ownBlock) (hat:v.ownBlock=some g∨g=w2.heap.size+1) :
  KOutLoop X n ks s nv w1 (k+1) (.slice (some ⟨g,0,none⟩) (k+1) cap) (w3.setCell ⟨X,2,none⟩ (.slice (some ⟨g,0,none⟩) (k+1) cap)):=by
 have t:=hb2.size
 have u:=hgrow.size
 have G:=h.size
 simp at u
 rw[hW]at t
 have i:∀b,v.ownBlock=some b->w1.heap.size<=b/\b<wr.heap.size:=r1_lt hown
 have w:xs.length=k*3:=hown.1
 have y:∀b,b<w2.heap.size->v.ownBlock≠some b->w3.heap[b]?=w2.heap[b]?:=fun b hb hne=>by
  rw[hgrow.block b (by simp;omega) (fun e=>hne e.symm),Below.heap_alloc _ _ _ hb]
 have r:∀b,b<wr.heap.size->v.ownBlock≠some b->w3.heap[b]?=wr.heap[b]?:=fun b hb hno=>by
  rw[y b (by omega) hno,hb2.block b (by rw[hW];exact hb),hW]
 have o:∀b,b≠X->(w3.setCell ⟨X,2,none⟩ (.slice (some ⟨g,0,none⟩) (k+1) cap)).heap[b]?=w3.heap[b]?:=fun b hb=>Below.heap_setCell _ _ _ _ hb
 have c:(w3.setCell ⟨X,2,none⟩ (.slice (some ⟨g,0,none⟩) (k+1) cap)).heap.size=w3.heap.size:=by simp
 have z:v.ownBlock≠some X:=fun e=>by have:=i X e;omega
 have l:=(r X (by omega) z).trans hbox
 have a:∀b,v.ownBlock≠some b->b<w2.heap.size->(Value.slice (some ⟨g,0,none⟩) (k+1) cap).ownBlock≠some b:=by
  intro b A I e
  have e:g=b:=by simpa [Value.ownBlock] using e
  rcases hat with h3|h3
  ·exact A (by rw[h3,e])
  ·omega
 have f:∀b,wr.heap.size<=b->v.ownBlock≠some b:=fun b A e=>by have:=i b e;omega
 have H:=r1_lt hown' g rfl
 refine⟨⟨?_,?_,?_,by rw[c];omega,fun b hb hne=>?_⟩,?_,xs++[c0,c1,c2],Ps++[L3++L4],qbF hown' fun g' hg'=>o g' (by have:=r1_lt hown' g' hg';omega),by simp[hpl],⟨?_,fun j hj hp=>?_⟩,?_⟩
 ·show w3.os=w1.os
  rw[hgrow.os];exact hb2.os.trans (hWo.1.trans h.os)
 ·show w3.tape=w1.tape
  rw[hgrow.tape];exact hb2.tape.trans (hWo.2.1.trans h.tape)
 ·show w3.output=w1.output
  rw[hgrow.output];exact hb2.output.trans (hWo.2.2.trans h.output)
 ·rw[o b hne,r b (by omega) (fun e=>by have:=i b e;omega)];exact h.block b hb hne
 ·simp[World.setCell,Array.getElem?_modify,l]
 ·rw[List.flatten_append,List.flatten_singleton]
  refine hko.1.app ho (fun b hb=>⟨hb.1,by rw[c];omega,a b hb.2.2 (by omega)⟩) (fun b hb=>⟨by omega,by rw[c];omega,a b (f b hb.1) hb.2⟩) (fun b A I=>by omega)
 ·by_cases hjk:j<k
  ·have m:j<Ps.length:=by omega
   obtain⟨J,L,M,E,F,N,q,B,C,D⟩:=hko.2 j hj m
   have d:∀s,s∈E++F->(w3.setCell ⟨X,2,none⟩ (.slice (some ⟨g,0,none⟩) (k+1) cap)).heap[s.b]?=wr.heap[s.b]?:=fun s hs=>by
    have:=hko.1.1 s (List.mem_flatten.2 ⟨_,List.getElem_mem m,by rw[q];exact hs⟩)
    rw[o s.b (by have:=this.1;omega)]
    exact r s.b this.2.1 this.2.2
   refine⟨J,L,M,E,F,?_,by rw[List.getElem_append_left m];exact q,B.keep (fun b hb=>by rw[o b (by have:=hb.1;omega)];exact r b hb.2.1 hb.2.2) (fun b hb=>⟨hb.1,by rw[c];have:=hb.2.1;omega,a b hb.2.2 (by have:=hb.2.1;omega)⟩),
    C.same (fun s hs=>d s (List.mem_append_left _ hs)),D.same (fun s hs=>d s (List.mem_append_right _ hs))⟩
   rw[List.getElem?_append_left (by omega),List.getElem?_append_left (by omega),List.getElem?_append_left (by omega)]
   exact N
  ·have p:j=k:=by simp at hp;omega
   subst p
   have d:∀s,s∈L3++L4->(w3.setCell ⟨X,2,none⟩ (.slice (some ⟨g,0,none⟩) (j+1) cap)).heap[s.b]?=w2.heap[s.b]?:=fun s hs=>by
    have:=ho.1 s hs
    rw[o s.b (by omega)]
    exact y s.b this.2 (f _ this.1)
   refine⟨c0,c1,c2,L3,L4,?_,by simp[<- hpl],hin.keep (fun b hb=>by rw[o b (by omega)];exact y b hb.2 (f b hb.1)) (fun b hb=>⟨by have:=hb.1;omega,by rw[c];have:=hb.2;omega,a b (f b hb.1) hb.2⟩),
    h3.same (fun s hs=>d s (List.mem_append_left _ hs)),h4.same (fun s hs=>d s (List.mem_append_right _ hs))⟩
   rw[List.getElem?_append_right (by omega),List.getElem?_append_right (by omega),List.getElem?_append_right (by omega),w,
    Nat.sub_self,show j*3+1-j*3=1 by omega,show j*3+2-j*3=2 by omega]
   exact⟨rfl,rfl,rfl⟩
 ·rw[List.take_succ_eq_append_getElem hk,qsE,<- hln,List.flatten_append,List.flatten_singleton,List.length_append,hl];omega
set_option maxRecDepth 100000
set_option maxHeartbeats 16000000
theorem Tryz.info_kindO:(prog.info? 55).map (fun i=>(i.zero,i.size,i.bytes))=some (some (.agg #[.int .i64 0,.slice none 0 0,.slice none 0 0]),3,56):=by kernel_rfl
def qlG(n:Nat)(t:K n)(w:World)(e:Ending)(w':World):Prop:=
 Below w.heap.size w w' /\ ∃g0 g1 g2 L3 L4,e=.returned (.agg #[g0,g1,g2])/\KindIn (fun b=>w.heap.size<=b/\b<w'.heap.size) w' n t g0 g1 g2/\SpN w' g1 L3/\SpK w' (n-1) g2 L4 /\
  Own (fun b=>w.heap.size<=b/\b<w'.heap.size) (L3++L4)/\(L3++L4).length=spKL n t
def qpX(n:Nat):Prop:=∀(S:Nat->Prop)(t:K n)(v:Value)(d:Int)(w:World),InnerK S w n t v->(∀b,S b->b<w.heap.size)->goodK n t d=true->cntK n t<=40->Calls prog 114 #[v] w (qlG n t w)
theorem xgO{n:Nat}{t:K (n+1)}{d:Int}(h:goodK (n+1) t d=true):(Lit.int .i64 (Kd.sort t)).wf=true:=by
 simp only[goodK,Bool.and_eq_true]at h
 have a:qbJ (Kd.sort t) (Kd.names t) (Kd.kids t).length=true:=h.1.2
 generalize Kd.sort t=s at *
 unfold qbJ at a
 by_cases h1:s=1
 ·subst h1;rfl
 by_cases h2:s=2
 ·subst h2;rfl
 by_cases h3:s=3
 ·subst h3;rfl
 by_cases h4:s=4
 ·subst h4;rfl
 by_cases h5:s=5
 ·subst h5;rfl
 by_cases h6:s=6
 ·subst h6;rfl
 rw[if_neg h1,if_neg h2,if_neg h3,if_neg h4,if_neg h5,if_neg h6]at a
 cases a
structure KOutStart(n:Nat)(t:K (n+1))(w:World)(X:Nat)(s:Int)(nv:Value)(W:World):Prop where
 below:Below w.heap.size w W
 zero:W.heap[w.heap.size]?=some (.cells #[.int .i64 0,.slice none 0 0,.slice none 0 0] 55 (0,0))
 box:W.heap[X]?=some (.cells #[.int .i64 s,nv,.slice none 0 0] 55 (0,0))
 names:W.ownsRow (w.heap.size+1) 9 1 nv (Kd.names t).length ((Kd.names t).map .string)
 far:nv.ownBlock≠some X
 low:w.heap.size<X
theorem qsH {n:Nat} {t:K (n+1)} {w W1 w1:World} {s:Int} {nv:Value} (hb1:Below w.heap.size w W1) (hz1:W1.heap.size=w.heap.size+1) (hzero:W1.heap[w.heap.size]?=some (.cells #[.int .i64 0,.slice none 0 0,.slice none 0 0] 55 (0,0))) (hb2:Below W1.heap.size W1 w1)
  (hown:w1.ownsRow W1.heap.size 9 1 nv (Kd.names t).length ((Kd.names t).map .string)):KOutStart n t w w1.heap.size s nv (w1.alloc (.cells #[.int .i64 s,nv,.slice none 0 0] 55)):=by
 have b:=hb2.size
 have a:=r1_lt hown
 refine⟨(hb1.trans (hb2.mono (by omega))).alloc (by omega) _,?_,heap_alloc_new _ _,by rw[<- hz1];exact hown.alloc _,fun e=>by have:=a _ e;omega,by omega⟩
 rw[Below.heap_alloc _ _ _ (by omega),hb2.block _ (by omega)];exact hzero
theorem qyI {n:Nat} {t:K (n+1)} {w W1 W2 w1:World} {s:Int} {nv:Value} (hb1:Below w.heap.size w W1) (hz1:W1.heap.size=w.heap.size+1) (hzero:W1.heap[w.heap.size]?=some (.cells #[.int .i64 0,.slice none 0 0,.slice none 0 0] 55 (0,0)))
  (hW2:W2=W1.alloc (.cells #[.int .i64 0,.slice none 0 0,.slice none 0 0] 55)) (hb2:Below W2.heap.size W2 w1)
  (hown:w1.ownsRow W2.heap.size 9 1 nv (Kd.names t).length ((Kd.names t).map .string)):KOutStart n t w (w.heap.size+1) s nv (put3 w1 (w.heap.size+1) 0 (.int .i64 s) nv (.slice none 0 0)):=by
 have d:W2.heap.size=w.heap.size+2:=by rw[hW2];simp;omega
 have f:=hb2.size
 have a:=r1_lt hown
 have c:w1.heap[w.heap.size+1]?=some (.cells #[.int .i64 0,.slice none 0 0,.slice none 0 0] 55 (0,0)):=by
  rw[hb2.block _ (by omega),hW2,<- hz1];exact heap_alloc_new _ _
 have b:Below w.heap.size w W2:=by rw[hW2];exact hb1.alloc hb1.size _
 refine⟨qeW (b.trans (hb2.mono (by omega))) (by omega),?_,?_,?_,fun e=>by have:=a _ e;omega,by omega⟩
 ·rw[qcV (by omega),hb2.block _ (by omega),hW2,Below.heap_alloc _ _ _ (by omega)];exact hzero
 ·simp[put3,World.setCell,Array.getElem?_modify,c]
 ·have h:w1.ownsRow (w.heap.size+1) 9 1 nv (Kd.names t).length ((Kd.names t).map .string):=by
   refine⟨hown.1,hown.2.elim .inl fun ⟨g,cap,cur,e,hg,r⟩=>.inr ⟨g,cap,cur,e,by omega,r⟩⟩
  exact qbF h fun g hg=>qcV (by have:=a g hg;omega)
theorem qeX {w:World} {N:Nat} (h:w.heap[N]?=some (.cells #[.int .i64 0,.slice none 0 0,.slice none 0 0] 55 (0,0))) :
  (w.cell? ⟨N,0,none⟩=some (.int .i64 0)/\w.cell? ⟨N,1,none⟩=some (.slice none 0 0)/\w.cell? ⟨N,2,none⟩=some (.slice none 0 0)) /\
   w.frozen? ⟨N,0,none⟩=false/\w.frozen? ⟨N,1,none⟩=false/\w.frozen? ⟨N,2,none⟩=false:=by
 refine⟨⟨?_,?_,?_⟩,?_,?_,?_⟩<;>simp[World.cell?,World.frozen?,h]
theorem xgP {n:Nat} {t:K (n+1)} {w W wr:World} {X:Nat} {v nv:Value} {s:Int} (h:KOutStart n t w X s nv W) (hs:Kd.sort t=s) (hwf:(Lit.int .i64 s).wf=true) (hl:(Kd.names t).length<=100) (hns:∀ x,x∈Kd.names t->x.size<=10000) (hkl:(Kd.kids t).length<=100)
  (hL:KOutLoop X n (Kd.kids t) s nv W (Kd.kids t).length v wr):qlG (n+1) t w (.returned (.agg #[.int .i64 s,nv,v])) (put3 wr w.heap.size 0 (.int .i64 s) nv v):=by
 have y:=h.low
 have A:=h.below.size
 have B:=hL.near.size
 obtain⟨xs,P,f,o,i,p⟩:=hL.row
 have z:=r1_lt f
 have d:=r1_lt h.names
 have q:∀b,b≠w.heap.size->(put3 wr w.heap.size 0 (.int .i64 s) nv v).heap[b]?=wr.heap[b]?:=fun b h=>qcV h
 have k:(put3 wr w.heap.size 0 (.int .i64 s) nv v).heap.size=wr.heap.size:=qfG
 have C:X<W.heap.size:=(Array.getElem?_eq_some_iff.1 h.box).1
 have c:wr.ownsRow (w.heap.size+1) 9 1 nv (Kd.names t).length ((Kd.names t).map .string):=qbF h.names fun g hg=>hL.near.block g (d g hg).2 (fun e=>h.far (by rw[<- e];exact hg))
 obtain⟨L3,F,G,H⟩:=qhY c (by omega)
 obtain⟨L4,I,J,r⟩:=quO f (by omega) o i (fun b hb=>hb.2.2)
 rw[List.take_length]at p
 have l:Own (fun b=>W.heap.size<=b/\b<wr.heap.size) L4:=J.mono (fun b hb=>hb.elim (fun h=>⟨h.1,h.2.1⟩) (fun h=>z b h))
 have a:Own (fun b=>w.heap.size+1<=b/\b<wr.heap.size) (L3++L4):=H.app l (fun b h=>by have:=d b h;omega) (fun b h=>by omega) (fun b h1 h2=>by have:=d b h1;omega)
 have m:Below w.heap.size w wr:=⟨hL.near.os.trans h.below.os,hL.near.tape.trans h.below.tape,hL.near.output.trans h.below.output,by omega,fun b hb=>(hL.near.block b (by omega) (by omega)).trans (h.below.block b hb)⟩
 refine⟨qeW m (Nat.le_refl _),_,_,_,L3,L4,rfl,⟨by rw[hs],by rw[hs];exact hwf,?_,?_⟩,F.same (fun x h=>q _ (by have:=(a.1 x (List.mem_append_left _ h)).1;omega)),I.same (fun x h=>q _ (by have:=(a.1 x (List.mem_append_right _ h)).1;omega)),a.mono (fun b hb=>by rw[k];omega),?_⟩
 ·have D:=qdW (S:=fun b=>w.heap.size+1<=b/\b<wr.heap.size) c (by omega) hns (fun g hg=>by have:=d g hg;omega)
  exact D.keep (fun b hb=>q b (by omega)) (fun b hb=>by rw[k];omega)
 ·have E:=qgV (S:=fun b=>w.heap.size+1<=b/\b<wr.heap.size) f (by omega) (fun g hg=>by have:=z g hg;omega) (fun j hj=>by
   obtain⟨L,M,N,Q,R,O,-,u,-⟩:=i.2 j hj (by omega)
   exact⟨L,M,N,O,u.keep (fun _ _=>rfl) (fun b hb=>⟨by have:=hb.1;omega,hb.2.1⟩)⟩)
  exact E.keepK (fun b hb=>q b (by omega)) (fun b hb=>by rw[k];omega)
 ·rw[List.length_append,G,r]
  show _=(Kd.names t).length+sumL (fun x=>1+spKL n x) (Kd.kids t)
  omega
theorem qnP(n:Nat)(hn:qpX n):qpX (n+1):=by
 intro S t v d w bH hB hg hc
 have bA:=xgO hg
 have Y:¬Kd.sort t=5->Kd.names t=[]:=qhQ hg
 have Z:Kd.sort t=5->(Kd.names t).length=(Kd.kids t).length/\riseB (Kd.names t)=true:=xcW hg
 have M:=hg
 simp only[goodK,Bool.and_eq_true]at M
 have aE:Hid (∀j (h:j<(Kd.kids t).length),goodK n (Kd.kids t)[j] (d+1)=true/\cntK n (Kd.kids t)[j]<=40):=by
  intro j h
  refine⟨List.all_eq_true.1 M.2 _ (List.getElem_mem h),?_⟩
  have:=qcA (fun x=>cntK n x) (Kd.kids t) _ (List.getElem_mem h)
  simp only[cntK]at hc;omega
 have bN:(Kd.kids t).length<=40:=by have:=xcU (Kd.kids t) M.2;simp only[cntK]at hc;omega
 have bO:(Kd.names t).length<=40:=by
  by_cases h5:Kd.sort t=5
  ·have:=(Z h5).1;omega
  ·rw[Y h5];simp
 have aA:∀x,x∈Kd.names t->x.size<=10000:=by
  intro x hx
  by_cases h5:Kd.sort t=5
  ·have:=qyH (Z h5).2 x hx;omega
  ·rw[Y h5]at hx;cases hx
 have bB:Hid (∀x,x∈Kd.names t->x.size<=10000):=aA
 clear M hg hc Y Z
 obtain⟨b,nv,pv,kv,rfl,bI,l,hN,-,hK⟩:=bH
 obtain⟨na,nc,rfl,-⟩:=id hN
 obtain⟨ka,kc,rfl,-,A⟩:=id hK
 generalize hs:Kd.sort t=s at *
 have HS:Hid (Kd.sort t=s):=hs
 clear hs
 have B:=hB b bI
 have k0:w.cell? ⟨b,0,none⟩=some (.int .i64 s):=by simp[World.cell?,l]
 have k1:w.cell? ⟨b,1,none⟩=some (.slice na (Kd.names t).length nc):=by simp[World.cell?,l]
 have k3:w.cell? ⟨b,3,none⟩=some (.slice ka (Kd.kids t).length kc):=by simp[World.cell?,l]
 obtain⟨W1,J⟩:∃W1,W1=w.alloc (.cells #[.int .i64 0,.slice none 0 0,.slice none 0 0] 55):=⟨_,rfl⟩
 have aB:W1.heap.size=w.heap.size+1:=by rw[J];simp
 have C:Below w.heap.size w W1:=by rw[J];exact (Below.refl _ _).alloc (Nat.le_refl _) _
 have H:W1.heap[w.heap.size]?=some (.cells #[.int .i64 0,.slice none 0 0,.slice none 0 0] 55 (0,0)):=by rw[J];exact heap_alloc_new _ _
 have j0:=(C.cell (p:=⟨b,0,none⟩) B).trans k0
 have j1:=(C.cell (p:=⟨b,1,none⟩) B).trans k1
 have HC:∀ W,Below w.heap.size w W->w.heap.size+1<=W.heap.size->Calls prog 136 #[.slice na (Kd.names t).length nc] W.drew fun e w'=>∃ r u y,e=.returned (.slice r u y)/\Below W.heap.size W w' /\ w'.cell? ⟨b,0,none⟩=some (.int .i64 s) /\
   w'.ownsRow W.heap.size 9 1 (.slice r u y) (Kd.names t).length ((Kd.names t).map .string):=by
  intro W aO bT
  refine (qiY S (Kd.names t) _ W.drew (hN.keep (qaB aO.drew hB) (fun _ h=>h)) (fun b R=>by have:=hB b R;simp;omega) (by omega) aA).mono ?_
  rintro e w' ⟨v',rfl,f,R⟩
  have aF:Below W.heap.size W w':=((Below.refl _ _).drew).trans R
  obtain⟨a,c,rfl⟩:=qhK f
  exact⟨_,_,_,rfl,aF,(aF.cell (p:=⟨b,0,none⟩) (by show b<_;omega)).trans ((aO.cell (p:=⟨b,0,none⟩) B).trans k0),f⟩
 have aG:Hid (Calls prog 136 #[.slice na (Kd.names t).length nc] W1.drew _):=HC W1 C (by omega)
 have N:Below w.heap.size w (W1.alloc (.cells #[.int .i64 0,.slice none 0 0,.slice none 0 0] 55)):=C.alloc C.size _
 have aH:Hid (Calls prog 136 #[.slice na (Kd.names t).length nc] (W1.alloc (.cells #[.int .i64 0,.slice none 0 0,.slice none 0 0] 55)).drew _):=HC _ N (by simp;omega)
 have aI:Hid ((W1.alloc (.cells #[.int .i64 0,.slice none 0 0,.slice none 0 0] 55)).heap[w.heap.size+1]?=some (.cells #[.int .i64 0,.slice none 0 0,.slice none 0 0] 55 (0,0))):=by rw[<- aB];exact heap_alloc_new _ _
 have O:Hid (W1.heap[w.heap.size]?=some (.cells #[.int .i64 0,.slice none 0 0,.slice none 0 0] 55 (0,0))/\Below w.heap.size w W1):=⟨H,C⟩
 have HK:Hid (Row1 S w (InnerK S w n) (Kd.kids t) (.slice ka (Kd.kids t).length kc)):=hK
 have bC:=(N.cell (p:=⟨b,0,none⟩) B).trans k0
 have bD:=(N.cell (p:=⟨b,1,none⟩) B).trans k1
 clear hN hK aA H l HC N
 go_enter func114,ntmps114
 go_wp2_with fail
 rw[<- J]
 clear J
 go_upto_region 1 with fail
 go_cut [3] from 6 (fun v wx=>∃(X:Nat)(r:Option Addr)(u y:Nat),v=.pointer (some ⟨X,0,none⟩)/\KOutStart n t w X s (.slice r u y) wx)
 case first=>
  go_region_law (first
   | (go_simp;go_at_call 136;refine aG.out.mono ?_;rintro e w1 ⟨r,u,y,rfl,m,aP,f⟩;have bJ:(w1.alloc (.cells #[.int .i64 0,.slice none 0 0,.slice none 0 0] 55)).cell? ⟨b,0,none⟩=some (.int .i64 s):=((World.cell?_of_block (Below.heap_alloc _ _ _ (by show b<_;have:=m.size;omega))).trans aP))
   | (go_simp;go_at_call 136;refine aH.out.mono ?_;rintro e w1 ⟨r,u,y,rfl,m,aP,f⟩;obtain⟨⟨r0,r1,r2⟩,f0,f1,f2⟩:=qeX ((m.block (w.heap.size+1) (by simp;omega)).trans aI.out)))
  all_goals
   have D:Hid (KOutStart n t w _ s (.slice r u y) _):=(by first|exact qsH O.out.2 aB O.out.1 m f|exact qyI O.out.2 aB O.out.1 rfl m f)
   clear m f
   go_wp2_with fail
   go_meet
   exact⟨_,_,_,_,rfl,D.out⟩
 case rest=>
  obtain⟨X,r,u,y,rfl,E⟩:=hcut
  have bE:X<wc.heap.size:=(Array.getElem?_eq_some_iff.1 E.box).1
  have bK:=E.low
  have bP:=(E.below.cell (p:=⟨b,3,none⟩) B).trans k3
  have D:Hid (KOutStart n t w X s (.slice r u y) wc):=E
  have bQ:=E.below.size
  clear E aH aG aI j0 j1 bC bD k0 k1 k3
  go_wp2_with fail
  go_loopw [21] (fun i wr=>∃(k:Nat)(v:Value),k<=(Kd.kids t).length/\i=.int .i64 k/\KOutLoop X n (Kd.kids t) s (.slice r u y) wc k v wr) (fun i _=>(Kd.kids t).length-(intOf i).toNat)
  case atStart=>exact⟨0,.slice none 0 0,Nat.zero_le _,rfl,Near.refl _ _,D.out.box,[],[],World.ownsRow_nil _ _ _ _,rfl,⟨Own.nil _,fun j _ hp=>absurd hp (Nat.not_lt_zero _)⟩,by simp[sumL]⟩
  case round=>
   obtain⟨k,v,hk,rfl,hL⟩:=hrel
   obtain⟨xs,Ps,f,aQ,aR,aS⟩:=hL.row
   obtain⟨F,G,rfl⟩:=qhK f
   have aC:=hL.near
   have bR:=aC.size
   have x0:wr.cell? ⟨X,0,none⟩=some (.int .i64 s):=by simp[World.cell?,hL.box]
   have x1:wr.cell? ⟨X,1,none⟩=some (.slice r u y):=by simp[World.cell?,hL.box]
   have x2:wr.cell? ⟨X,2,none⟩=some (.slice F k G):=by simp[World.cell?,hL.box]
   have HL:Hid (KOutLoop X n (Kd.kids t) s (.slice r u y) wc k (.slice F k G) wr):=hL
   have HX:Hid (wr.ownsRow wc.heap.size 55 3 (.slice F k G) k xs):=f
   have P:Hid (Ps.length=k/\qlE (fun b=>wc.heap.size<=b/\b<wr.heap.size/\(Value.slice F k G).ownBlock≠some b) wr n (Kd.kids t) xs Ps/\Ps.flatten.length+k=sumL (fun x=>1+spKL n x) ((Kd.kids t).take k)):=⟨aQ,aR,aS⟩
   clear hL f aQ aR aS
   by_cases hlt:k<(Kd.kids t).length
   ·obtain⟨kb,aT,rfl,aU,l⟩:=A (by intro h;rw[h]at hlt;simp at hlt)
    obtain⟨c,e0,hr⟩:=l k hlt
    obtain⟨cb,rfl,-⟩:=id hr.ptr
    have bS:=hB kb aU
    have z:∀b,S b->wr.heap[b]?=w.heap[b]?:=fun b R=>by
     have:=hB b R
     rw[aC.block b (by omega) (by omega)];exact D.out.below.block b this
    have f0:wr.cell? ⟨kb,aT+k,none⟩=some (.pointer (some ⟨cb,0,none⟩)):=(World.cell?_of_block (w:=w) (w':=wr) (a:=⟨kb,aT+k,none⟩) (z kb aU)).trans e0
    have HC:Hid (Calls prog 114 #[.pointer (some ⟨cb,0,none⟩)] wr.drew (qlG n (Kd.kids t)[k] wr.drew)):=hn S (Kd.kids t)[k] _ (d+1) wr.drew (hr.keep (w':=wr.drew) (fun b R=>z b R) (fun _ h=>h)) (fun b R=>by have:=hB b R;simp;omega) (aE.out k hlt).1 (aE.out k hlt).2
    obtain⟨i0,aV,aW,U,aX⟩:=info_parts Tryz.info_kindO
    have Q:Hid (_/\_/\_/\_):=⟨aV,aW,U,aX⟩
    have bF:X<wr.heap.size:=by omega
    clear aV aW U aX A l e0 hr z
    go_wp2_with fail
    go_region_law (first
     | (refine step_append_lies _ (by rfl) (.tmp 26) (.tmp 29) 53 (by rfl) wc.heap.size 55 i0 _ 3 56 underlying53 Q.out.1 Q.out.2.1 Q.out.2.2.1 Q.out.2.2.2 rfl (by decide) (.slice F k G) k xs (by rfl) (aL _) ⟨w2.heap.size,0,none⟩ 1 1 [.int .i64 u0,.slice ua ul uc,.slice ya yl yc] (by rfl) rfl (World.news_of_block (heap_alloc_new w2 _)) (by simp[Value.oneCell']) (by decide) (by unfold maxLen;omega) (by omega) (by simp;omega) (w2.heap.size+1) (by simp) ?_;intro g cap w3 K q V bM;have aD:=((q.block X (by simp;omega) (fun e=>by have:=r1_lt HX.out _ e.symm;omega)).trans (Below.heap_alloc _ _ _ (by omega))).trans I;have aJ:w3.cell? ⟨X,2,none⟩=some (.slice F k G):=(by simp[World.cell?,aD]);have aK:w3.frozen? ⟨X,2,none⟩=false:=(by simp[World.frozen?,aD]))
     | (go_simp;go_at_call 114;refine HC.out.mono ?_;rintro e w2 ⟨m,g0,g1,g2,L3,L4,rfl,L,aY,aZ,ho,hl⟩;obtain⟨u0,ua,ul,uc,ya,yl,yc,rfl,rfl,rfl⟩:=L.shape;have bL:wr.heap.size<=w2.heap.size:=m.size;have I:=(m.block X (by simpa using bF)).trans HL.out.box;have aL:∀o,(w2.alloc o).ownsRow wc.heap.size 55 3 (.slice F k G) k xs:=(fun o=>(qbF HX.out (fun g' hg'=>m.block g' (by have:=r1_lt HX.out g' hg';simp;omega))).alloc o);have aM:w2.cell? ⟨X,2,none⟩=some (.slice F k G):=(by simp[World.cell?,I]);have bG:(w2.alloc (.cells #[.int .i64 u0,.slice ua ul uc,.slice ya yl yc] 55)).cell? ⟨X,2,none⟩=some (.slice F k G):=(World.cell?_of_block (Below.heap_alloc _ _ _ (by show X<_;omega))).trans aM))
    all_goals
     have HF:Hid (KOutLoop X n (Kd.kids t) s (.slice r u y) wc (k+1) (.slice (some ⟨g,0,none⟩) (k+1) cap) (w3.setCell ⟨X,2,none⟩ (.slice (some ⟨g,0,none⟩) (k+1) cap))):=
      xcN (W:=wr.drew) HL.out.near bE HL.out.box hlt HX.out P.out.1 P.out.2.1 P.out.2.2 rfl ⟨rfl,rfl,rfl⟩ m L aY aZ ho hl K q V
     clear K q V L m aY aZ ho hl aL aM bG aJ aK aD I
     go_wp2_with fail
     go_roundw
     case rel=>exact⟨k+1,_,by omega,by go_num,HF.out⟩
     case measure=>simp[intOf];omega
   ·have aN:k=(Kd.kids t).length:=by omega
    have T:wr.heap[w.heap.size]?=some (.cells #[.int .i64 0,.slice none 0 0,.slice none 0 0] 55 (0,0)):=(aC.block _ (by omega) (by omega)).trans D.out.zero
    obtain⟨⟨r0,r1,r2⟩,f0,f1,f2⟩:=qeX T
    have HP:Hid (qlG (n+1) t w (.returned (.agg #[.int .i64 s,.slice r u y,.slice F k G])) (put3 wr w.heap.size 0 (.int .i64 s) (.slice r u y) (.slice F k G))):=by
     have h1:=HL.out
     rw[aN]at h1 ⊢
     exact xgP D.out HS.out bA (by omega) bB.out (by omega) h1
    clear aN A HX P HL T
    go_wp2_with fail
    refine bodyPost_ret (v:=.agg #[.int .i64 s,.slice r u y,.slice F k G]) (by simp[results,results114,go_sem,r0,r1,r2]) rfl ?_
    exact HP.out
theorem qpY:∀n,qpX n:=by
 intro n
 induction n with
 | zero=>intro S t v d w h;exact h.elim
 | succ n ih=>exact qnP n ih
def ansR(m:Nat)(s:ByteArray):K (m+1):=(readK (m+1) s).getD (⟨0,[],[]⟩:Kd (K m))
def okR(m:Nat)(s:ByteArray):Bool:=(readK (m+1) s).isSome
theorem qsM{m:Nat}{s:ByteArray}{k:K (m+1)}(h:readK (m+1) s=some k):ansR m s=k/\okR m s=true:=by
 unfold ansR okR;rw[h];exact⟨rfl,rfl⟩
theorem qsN{m:Nat}{s:ByteArray}(h:readK (m+1) s=none):ansR m s=(⟨0,[],[]⟩:Kd (K m))/\okR m s=false:=by
 unfold ansR okR;rw[h];exact⟨rfl,rfl⟩
theorem qoQ{n:Nat}{s:ByteArray}(h:¬s.size<=800):readK n s=none:=by unfold readK;rw[if_neg h]
theorem xgT{n:Nat}{s:ByteArray}(h:∀k,qaM n s.data.toList≠some (k,[])):readK n s=none:=by
 unfold readK
 split
 ·split
  ·next k hp=>exact absurd hp (h k)
  ·rfl
 ·rfl
theorem xdC{n:Nat}{s:ByteArray}{k:K n}(h:qaM n s.data.toList=some (k,[]))(hok:okK n k=false):readK n s=none:=by
 unfold readK
 split
 ·rw[h];simp only[hok,Bool.false_eq_true,if_false]
 ·rfl
theorem xdD{n:Nat}{s:ByteArray}{k:K n}(h8:s.size<=800)(h:qaM n s.data.toList=some (k,[]))(hok:okK n k=true):readK n s=some k:=by
 unfold readK
 rw[if_pos h8,h];simp only[hok,if_true]
theorem qwP(S:Nat->Prop)(w:World)(m:Nat):KindIn S w (m+1) (⟨0,[],[]⟩:Kd (K m)) (.int .i64 0) (.slice none 0 0) (.slice none 0 0):=
 ⟨rfl,rfl,⟨none,0,rfl,by simp[maxLen],fun s h=>(by cases h),fun h=>absurd rfl h⟩,⟨none,0,rfl,by simp[maxLen],fun h=>absurd rfl h⟩⟩
theorem xiY:∀(n:Nat)(t:K n)(d:Int),goodK n t d=true->spKL n t+2<=2*cntK n t:=by
 intro n
 induction n with
 | zero=>intro t d h;simp[goodK]at h
 | succ n ih=>
  intro t d f
  have b:=f
  simp only[goodK,Bool.and_eq_true]at b
  have c:cntK (n+1) t=1+sumL (fun x=>cntK n x) (Kd.kids t):=by simp only[cntK]
  have g:(Kd.names t).length<=(Kd.kids t).length:=by
   by_cases h5:Kd.sort t=5
   ·have:=(xcW f h5).1;omega
   ·rw[qhQ f h5];simp
  have e:∀l:List (K n),(∀x,x∈l->goodK n x (d+1)=true)->l.length+sumL (fun x=>1+spKL n x) l<=2*sumL (fun x=>cntK n x) l:=by
   intro l
   induction l with
   | nil=>intro _;simp[sumL]
   | cons a r ihr=>
    intro h
    have i:=ih a (d+1) (h a (List.mem_cons_self ..))
    have j:=ihr (fun x hx=>h x (List.mem_cons_of_mem _ hx))
    simp only[sumL,List.length_cons]
    omega
  have:=e (Kd.kids t) (fun x hx=>List.all_eq_true.1 b.2 _ hx)
  rw[c]
  show (Kd.names t).length+sumL (fun x=>1+spKL n x) (Kd.kids t)+2<=_
  omega
end Go.Proofs.YtelogmjfekhmpaaGreatDoor
