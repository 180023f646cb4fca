import Derived.Test.YtelogmjfekhmpaaGreatDoorKOut1
import Derived.Test.YtelogmjfekhmpaaGreatDoorKMade
import Derived.Test.YtelogmjfekhmpaaGreatDoorKFirst
import Derived.Deep.RegionLaw
import Derived.Deep.RegionWith
import Derived.Deep.Cut
import Derived.WalkSmall
import Derived.LoopTactic
namespace Go.Proofs.YtelogmjfekhmpaaGreatDoor
set_option maxRecDepth 100000
set_option maxHeartbeats 16000000
open Go.RowKit
theorem Tryz.info_kindO:(Tryz.prog.info? 55).map (fun i=>(i.zero,i.size,i.bytes))=some (some (.agg #[.int .i64 0,.slice none 0 0,.slice none 0 0]),3,56):=by kernel_rfl
def qlJ (n:Nat) (t:K n) (w:World) (e:Ending) (w':World):Prop:=
 Below w.heap.size w w' /\ ∃ g0 g1 g2 L3 L4,e=.returned (.agg #[g0,g1,g2])/\KindIn (fun b=>w.heap.size<=b/\b<w'.heap.size) w' n t g0 g1 g2/\SpN w' g1 L3/\SpK w' (n - 1) g2 L4 /\
  Own (fun b=>w.heap.size<=b/\b<w'.heap.size) (L3++L4)/\(L3++L4).length=spKL n t
def qpX (n:Nat):Prop:=∀ (S:Nat->Prop) (t:K n) (v:Value) (d:Int) (w:World),InnerK S w n t v->(∀ b,S b->b<w.heap.size)->goodK n t d=true->cntK n t<=40->Calls Tryz.prog 114 #[v] w (qlJ n t w)
theorem xgN {n:Nat} {t:K (n+1)} {d:Int} (h:goodK (n+1) t d=true):(Lit.int .i64 (Kd.sort t)).wf=true:=by
 simp only[goodK,Bool.and_eq_true]at h
 have ha:qbK (Kd.sort t) (Kd.names t) (Kd.kids t).length=true:=h.1.2
 generalize Kd.sort t=s at *
 unfold qbK at ha
 by_cases h1:s=1
 ·subst h1;rfl
 by_cases h2:s=2
 ·subst h2;rfl
 by_cases h3:s=3
 ·subst h3;rfl
 by_cases h4:s=4
 ·subst h4;rfl
 by_cases h5:s=5
 ·subst h5;rfl
 by_cases h6:s=6
 ·subst h6;rfl
 rw[if_neg h1,if_neg h2,if_neg h3,if_neg h4,if_neg h5,if_neg h6]at ha
 cases ha
structure KOutStart (n:Nat) (t:K (n+1)) (w:World) (X:Nat) (s:Int) (nv:Value) (W:World):Prop where
 below:Below w.heap.size w W
 zero:W.heap[w.heap.size]?=some (.cells #[.int .i64 0,.slice none 0 0,.slice none 0 0] 55 (0,0))
 box:W.heap[X]?=some (.cells #[.int .i64 s,nv,.slice none 0 0] 55 (0,0))
 names:W.ownsRow (w.heap.size+1) 9 1 nv (Kd.names t).length ((Kd.names t).map .string)
 far:nv.ownBlock≠some X
 low:w.heap.size<X
theorem qsH {n:Nat} {t:K (n+1)} {w W1 w1:World} {s:Int} {nv:Value} (hb1:Below w.heap.size w W1) (hz1:W1.heap.size=w.heap.size+1) (hzero:W1.heap[w.heap.size]?=some (.cells #[.int .i64 0,.slice none 0 0,.slice none 0 0] 55 (0,0))) (hb2:Below W1.heap.size W1 w1)
  (hown:w1.ownsRow W1.heap.size 9 1 nv (Kd.names t).length ((Kd.names t).map .string)):KOutStart n t w w1.heap.size s nv (w1.alloc (.cells #[.int .i64 s,nv,.slice none 0 0] 55)):=by
 have aB:=hb2.size
 have aA:=r1_lt hown
 refine⟨(hb1.trans (hb2.mono (by omega))).alloc (by omega) _,?_,heap_alloc_new _ _,by rw[<- hz1];exact hown.alloc _,fun e=>by have:=aA _ e;omega,by omega⟩
 rw[Below.heap_alloc _ _ _ (by omega),hb2.block _ (by omega)];exact hzero
theorem qyI {n:Nat} {t:K (n+1)} {w W1 W2 w1:World} {s:Int} {nv:Value} (hb1:Below w.heap.size w W1) (hz1:W1.heap.size=w.heap.size+1) (hzero:W1.heap[w.heap.size]?=some (.cells #[.int .i64 0,.slice none 0 0,.slice none 0 0] 55 (0,0)))
  (hW2:W2=W1.alloc (.cells #[.int .i64 0,.slice none 0 0,.slice none 0 0] 55)) (hb2:Below W2.heap.size W2 w1)
  (hown:w1.ownsRow W2.heap.size 9 1 nv (Kd.names t).length ((Kd.names t).map .string)):KOutStart n t w (w.heap.size+1) s nv (put3 w1 (w.heap.size+1) 0 (.int .i64 s) nv (.slice none 0 0)):=by
 have aC:W2.heap.size=w.heap.size+2:=by rw[hW2];simp;omega
 have aE:=hb2.size
 have aB:=r1_lt hown
 have aD:w1.heap[w.heap.size+1]?=some (.cells #[.int .i64 0,.slice none 0 0,.slice none 0 0] 55 (0,0)):=by
  rw[hb2.block _ (by omega),hW2,<- hz1];exact heap_alloc_new _ _
 have aA:Below w.heap.size w W2:=by rw[hW2];exact hb1.alloc hb1.size _
 refine⟨qeY (aA.trans (hb2.mono (by omega))) (by omega),?_,?_,?_,fun e=>by have:=aB _ e;omega,by omega⟩
 ·rw[qcX (by omega),hb2.block _ (by omega),hW2,Below.heap_alloc _ _ _ (by omega)];exact hzero
 ·simp[put3,World.setCell,Array.getElem?_modify,aD]
 ·have h1:w1.ownsRow (w.heap.size+1) 9 1 nv (Kd.names t).length ((Kd.names t).map .string):=by
   refine⟨hown.1,hown.2.elim .inl fun ⟨g,cap,cur,e,hg,r⟩=>.inr ⟨g,cap,cur,e,by omega,r⟩⟩
  exact qbG h1 fun g hg=>qcX (by have:=aB g hg;omega)
theorem qeZ {w:World} {N:Nat} (h:w.heap[N]?=some (.cells #[.int .i64 0,.slice none 0 0,.slice none 0 0] 55 (0,0))) :
  (w.cell? ⟨N,0,none⟩=some (.int .i64 0)/\w.cell? ⟨N,1,none⟩=some (.slice none 0 0)/\w.cell? ⟨N,2,none⟩=some (.slice none 0 0)) /\
   w.frozen? ⟨N,0,none⟩=false/\w.frozen? ⟨N,1,none⟩=false/\w.frozen? ⟨N,2,none⟩=false:=by
 refine⟨⟨?_,?_,?_⟩,?_,?_,?_⟩ <;> simp[World.cell?,World.frozen?,h]
theorem xgO {n:Nat} {t:K (n+1)} {w W wr:World} {X:Nat} {v nv:Value} {s:Int} (h:KOutStart n t w X s nv W) (hs:Kd.sort t=s) (hwf:(Lit.int .i64 s).wf=true) (hl:(Kd.names t).length<=100) (hns:∀ x,x∈Kd.names t->x.size<=10000) (hkl:(Kd.kids t).length<=100)
  (hL:KOutLoop X n (Kd.kids t) s nv W (Kd.kids t).length v wr):qlJ (n+1) t w (.returned (.agg #[.int .i64 s,nv,v])) (put3 wr w.heap.size 0 (.int .i64 s) nv v):=by
 have aF:=h.low
 have aM:=h.below.size
 have aN:=hL.near.size
 obtain⟨xs,Ps,aD,aI,aE,aJ⟩:=hL.row
 have hv:=r1_lt aD
 have aC:=r1_lt h.names
 have q:∀ b,b≠w.heap.size->(put3 wr w.heap.size 0 (.int .i64 s) nv v).heap[b]?=wr.heap[b]?:=fun b h=>qcX h
 have hz:(put3 wr w.heap.size 0 (.int .i64 s) nv v).heap.size=wr.heap.size:=qfI
 have aO:X<W.heap.size:=(Array.getElem?_eq_some_iff.1 h.box).1
 have aB:wr.ownsRow (w.heap.size+1) 9 1 nv (Kd.names t).length ((Kd.names t).map .string):=qbG h.names fun g hg=>hL.near.block g (aC g hg).2 (fun e=>h.far (by rw[<- e];exact hg))
 obtain⟨L3,p1,p2,p3⟩:=qiB aB (by omega)
 obtain⟨L4,hR,hO,aK⟩:=quO aD (by omega) aI aE (fun b hb=>hb.2.2)
 rw[List.take_length]at aJ
 have aG:Own (fun b=>W.heap.size<=b/\b<wr.heap.size) L4:=hO.mono (fun b hb=>hb.elim (fun h=>⟨h.1,h.2.1⟩) (fun h=>hv b h))
 have aA:Own (fun b=>w.heap.size+1<=b/\b<wr.heap.size) (L3++L4):=p3.app aG (fun b h=>by have:=aC b h;omega) (fun b h=>by omega) (fun b h1 h2=>by have:=aC b h1;omega)
 have aH:Below w.heap.size w wr:=⟨hL.near.os.trans h.below.os,hL.near.tape.trans h.below.tape,hL.near.output.trans h.below.output,by omega,fun b hb=>(hL.near.block b (by omega) (by omega)).trans (h.below.block b hb)⟩
 refine⟨qeY aH (Nat.le_refl _),_,_,_,L3,L4,rfl,⟨by rw[hs],by rw[hs];exact hwf,?_,?_⟩,p1.same (fun x h=>q _ (by have:=(aA.1 x (List.mem_append_left _ h)).1;omega)),hR.same (fun x h=>q _ (by have:=(aA.1 x (List.mem_append_right _ h)).1;omega)),aA.mono (fun b hb=>by rw[hz];omega),?_⟩
 ·have h3:=qdZ (S:=fun b=>w.heap.size+1<=b/\b<wr.heap.size) aB (by omega) hns (fun g hg=>by have:=aC g hg;omega)
  exact h3.keep (fun b hb=>q b (by omega)) (fun b hb=>by rw[hz];omega)
 ·have h4:=qgX (S:=fun b=>w.heap.size+1<=b/\b<wr.heap.size) aD (by omega) (fun g hg=>by have:=hv g hg;omega) (fun j hj=>by
   obtain⟨d0,d1,d2,K3,K4,hd,-,aL,-⟩:=aE.2 j hj (by omega)
   exact⟨d0,d1,d2,hd,aL.keep (fun _ _=>rfl) (fun b hb=>⟨by have:=hb.1;omega,hb.2.1⟩)⟩)
  exact h4.keepK (fun b hb=>q b (by omega)) (fun b hb=>by rw[hz];omega)
 ·rw[List.length_append,p2,aK]
  show _=(Kd.names t).length+sumL (fun x=>1+spKL n x) (Kd.kids t)
  omega
theorem qnQ (n:Nat) (hn:qpX n):qpX (n+1):=by
 intro S t v d w cB hB hg hc
 have bV:=xgN hg
 have aY:¬ Kd.sort t=5->Kd.names t=[]:=qhS hg
 have aZ:Kd.sort t=5->(Kd.names t).length=(Kd.kids t).length/\riseB (Kd.names t)=true:=xcW hg
 have aT:=hg
 simp only[goodK,Bool.and_eq_true]at aT
 have bE:Hid (∀ j (h:j<(Kd.kids t).length),goodK n (Kd.kids t)[j] (d+1)=true/\cntK n (Kd.kids t)[j]<=40):=by
  intro j h
  refine⟨List.all_eq_true.1 aT.2 _ (List.getElem_mem h),?_⟩
  have:=qcB (fun x=>cntK n x) (Kd.kids t) _ (List.getElem_mem h)
  simp only[cntK]at hc;omega
 have cE:(Kd.kids t).length<=40:=by have:=xcU (Kd.kids t) aT.2;simp only[cntK]at hc;omega
 have cF:(Kd.names t).length<=40:=by
  by_cases h5:Kd.sort t=5
  ·have:=(aZ h5).1;omega
  ·rw[aY h5];simp
 have bA:∀ x,x∈Kd.names t->x.size<=10000:=by
  intro x hx
  by_cases h5:Kd.sort t=5
  ·have:=qyH (aZ h5).2 x hx;omega
  ·rw[aY h5]at hx;cases hx
 have bW:Hid (∀ x,x∈Kd.names t->x.size<=10000):=bA
 clear aT hg hc aY aZ
 obtain⟨b,nv,pv,kv,rfl,cC,aA,hN,-,hK⟩:=cB
 obtain⟨na,nc,rfl,-⟩:=id hN
 obtain⟨ka,kc,rfl,-,aF⟩:=id hK
 generalize hs:Kd.sort t=s at *
 have HS:Hid (Kd.sort t=s):=hs
 clear hs
 have aK:=hB b cC
 have k0:w.cell? ⟨b,0,none⟩=some (.int .i64 s):=by simp[World.cell?,aA]
 have k1:w.cell? ⟨b,1,none⟩=some (.slice na (Kd.names t).length nc):=by simp[World.cell?,aA]
 have k3:w.cell? ⟨b,3,none⟩=some (.slice ka (Kd.kids t).length kc):=by simp[World.cell?,aA]
 obtain⟨W1,aQ⟩:∃ W1,W1=w.alloc (.cells #[.int .i64 0,.slice none 0 0,.slice none 0 0] 55):=⟨_,rfl⟩
 have bB:W1.heap.size=w.heap.size+1:=by rw[aQ];simp
 have aL:Below w.heap.size w W1:=by rw[aQ];exact (Below.refl _ _).alloc (Nat.le_refl _) _
 have aG:W1.heap[w.heap.size]?=some (.cells #[.int .i64 0,.slice none 0 0,.slice none 0 0] 55 (0,0)):=by rw[aQ];exact heap_alloc_new _ _
 have j0:=(aL.cell (p:=⟨b,0,none⟩) aK).trans k0
 have j1:=(aL.cell (p:=⟨b,1,none⟩) aK).trans k1
 have HC:∀ W,Below w.heap.size w W->w.heap.size+1<=W.heap.size->Calls Tryz.prog 136 #[.slice na (Kd.names t).length nc] W.drew fun e w'=>∃ va vl vc,e=.returned (.slice va vl vc)/\Below W.heap.size W w' /\ w'.cell? ⟨b,0,none⟩=some (.int .i64 s) /\
   w'.ownsRow W.heap.size 9 1 (.slice va vl vc) (Kd.names t).length ((Kd.names t).map .string):=by
  intro W bL cJ
  refine (qjC S (Kd.names t) _ W.drew (hN.keep (qaB bL.drew hB) (fun _ h=>h)) (fun b hb=>by have:=hB b hb;simp;omega) (by omega) bA).mono ?_
  rintro e w' ⟨v',rfl,aB,hb⟩
  have bF:Below W.heap.size W w':=((Below.refl _ _).drew).trans hb
  obtain⟨a,c,rfl⟩:=qhM aB
  exact⟨_,_,_,rfl,bF,(bF.cell (p:=⟨b,0,none⟩) (by show b<_;omega)).trans ((bL.cell (p:=⟨b,0,none⟩) aK).trans k0),aB⟩
 have bG:Hid (Calls Tryz.prog 136 #[.slice na (Kd.names t).length nc] W1.drew _):=HC W1 aL (by omega)
 have aU:Below w.heap.size w (W1.alloc (.cells #[.int .i64 0,.slice none 0 0,.slice none 0 0] 55)):=aL.alloc aL.size _
 have bH:Hid (Calls Tryz.prog 136 #[.slice na (Kd.names t).length nc] (W1.alloc (.cells #[.int .i64 0,.slice none 0 0,.slice none 0 0] 55)).drew _):=HC _ aU (by simp;omega)
 have bI:Hid ((W1.alloc (.cells #[.int .i64 0,.slice none 0 0,.slice none 0 0] 55)).heap[w.heap.size+1]?=some (.cells #[.int .i64 0,.slice none 0 0,.slice none 0 0] 55 (0,0))):=by rw[<- bB];exact heap_alloc_new _ _
 have aV:Hid (W1.heap[w.heap.size]?=some (.cells #[.int .i64 0,.slice none 0 0,.slice none 0 0] 55 (0,0))/\Below w.heap.size w W1):=⟨aG,aL⟩
 have HK:Hid (Row1 S w (InnerK S w n) (Kd.kids t) (.slice ka (Kd.kids t).length kc)):=hK
 have jA0:=(aU.cell (p:=⟨b,0,none⟩) aK).trans k0
 have jA1:=(aU.cell (p:=⟨b,1,none⟩) aK).trans k1
 clear hN hK bA aG aA HC aU
 go_enter Tryz.func114,Tryz.ntmps114
 go_wp2_with fail
 rw[<- aQ]
 clear aQ
 go_upto_region 1 with fail
 go_cut [3] from 6 (fun v wx=>∃ (X:Nat) (va:Option Addr) (vl vc:Nat),v=.pointer (some ⟨X,0,none⟩)/\KOutStart n t w X s (.slice va vl vc) wx)
 case first=>
  go_region_law (first
   | (go_simp;go_at_call 136;refine bG.out.mono ?_;rintro e w1 ⟨va,vl,vc,rfl,aD,j0',aB⟩;have j0'':(w1.alloc (.cells #[.int .i64 0,.slice none 0 0,.slice none 0 0] 55)).cell? ⟨b,0,none⟩=some (.int .i64 s):=((World.cell?_of_block (Below.heap_alloc _ _ _ (by show b<_;have:=aD.size;omega))).trans j0'))
   | (go_simp;go_at_call 136;refine bH.out.mono ?_;rintro e w1 ⟨va,vl,vc,rfl,aD,j0',aB⟩;obtain⟨⟨r0,r1,r2⟩,f0,f1,f2⟩:=qeZ ((aD.block (w.heap.size+1) (by simp;omega)).trans bI.out)))
  all_goals
   have aM:Hid (KOutStart n t w _ s (.slice va vl vc) _):=(by first|exact qsH aV.out.2 bB aV.out.1 aD aB|exact qyI aV.out.2 bB aV.out.1 rfl aD aB)
   clear aD aB
   go_wp2_with fail
   go_meet
   exact⟨_,_,_,_,rfl,aM.out⟩
 case rest=>
  obtain⟨X,va,vl,vc,rfl,aN⟩:=hcut
  have bX:X<wc.heap.size:=(Array.getElem?_eq_some_iff.1 aN.box).1
  have bY:=aN.low
  have k3c:=(aN.below.cell (p:=⟨b,3,none⟩) aK).trans k3
  have aM:Hid (KOutStart n t w X s (.slice va vl vc) wc):=aN
  have cG:=aN.below.size
  clear aN bH bG bI j0 j1 jA0 jA1 k0 k1 k3
  go_wp2_with fail
  go_loopw [21] (fun i wr=>∃ (k:Nat) (v:Value),k<=(Kd.kids t).length/\i=.int .i64 k/\KOutLoop X n (Kd.kids t) s (.slice va vl vc) wc k v wr) (fun i _=>(Kd.kids t).length - (intOf i).toNat)
  case atStart=>exact⟨0,.slice none 0 0,Nat.zero_le _,rfl,Near.refl _ _,aM.out.box,[],[],World.ownsRow_nil _ _ _ _,rfl,⟨Own.nil _,fun j _ hp=>absurd hp (Nat.not_lt_zero _)⟩,by simp[sumL]⟩
  case round=>
   obtain⟨k,v,hk,rfl,hL⟩:=hrel
   obtain⟨xs,Ps,aB,bM,bN,bO⟩:=hL.row
   obtain⟨xa,xc,rfl⟩:=qhM aB
   have bC:=hL.near
   have cH:=bC.size
   have x0:wr.cell? ⟨X,0,none⟩=some (.int .i64 s):=by simp[World.cell?,hL.box]
   have x1:wr.cell? ⟨X,1,none⟩=some (.slice va vl vc):=by simp[World.cell?,hL.box]
   have x2:wr.cell? ⟨X,2,none⟩=some (.slice xa k xc):=by simp[World.cell?,hL.box]
   have HL:Hid (KOutLoop X n (Kd.kids t) s (.slice va vl vc) wc k (.slice xa k xc) wr):=hL
   have HX:Hid (wr.ownsRow wc.heap.size 55 3 (.slice xa k xc) k xs):=aB
   have aW:Hid (Ps.length=k/\qlH (fun b=>wc.heap.size<=b/\b<wr.heap.size/\(Value.slice xa k xc).ownBlock≠some b) wr n (Kd.kids t) xs Ps/\Ps.flatten.length+k=sumL (fun x=>1+spKL n x) ((Kd.kids t).take k)):=⟨bM,bN,bO⟩
   clear hL aB bM bN bO
   by_cases aO:k<(Kd.kids t).length
   ·obtain⟨kb,off,rfl,bP,aA⟩:=aF (by intro h;rw[h]at aO;simp at aO)
    obtain⟨c,e0,hr⟩:=aA k aO
    obtain⟨cb,rfl,-⟩:=id hr.ptr
    have cI:=hB kb bP
    have aE:∀ b,S b->wr.heap[b]?=w.heap[b]?:=fun b hb=>by
     have:=hB b hb
     rw[bC.block b (by omega) (by omega)];exact aM.out.below.block b this
    have f0:wr.cell? ⟨kb,off+k,none⟩=some (.pointer (some ⟨cb,0,none⟩)):=(World.cell?_of_block (w:=w) (w':=wr) (a:=⟨kb,off+k,none⟩) (aE kb bP)).trans e0
    have HC:Hid (Calls Tryz.prog 114 #[.pointer (some ⟨cb,0,none⟩)] wr.drew (qlJ n (Kd.kids t)[k] wr.drew)):=hn S (Kd.kids t)[k] _ (d+1) wr.drew (hr.keep (w':=wr.drew) (fun b hb=>aE b hb) (fun _ h=>h)) (fun b hb=>by have:=hB b hb;simp;omega) (bE.out k aO).1 (bE.out k aO).2
    obtain⟨i0,bQ,bR,aR,bS⟩:=info_parts Tryz.info_kindO
    have aX:Hid (_/\_/\_/\_):=⟨bQ,bR,aR,bS⟩
    have bZ:X<wr.heap.size:=by omega
    clear bQ bR aR bS aF aA e0 hr aE
    go_wp2_with fail
    go_region_law (first
     | (refine step_append_lies _ (by rfl) (.tmp 26) (.tmp 29) 53 (by rfl) wc.heap.size 55 i0 _ 3 56 Tryz.underlying53 aX.out.1 aX.out.2.1 aX.out.2.2.1 aX.out.2.2.2 rfl (by decide) (.slice xa k xc) k xs (by rfl) (bJ _) ⟨w2.heap.size,0,none⟩ 1 1 [.int .i64 u0,.slice ua ul uc,.slice ya yl yc] (by rfl) rfl (World.news_of_block (heap_alloc_new w2 _)) (by simp[Value.oneCell']) (by decide) (by unfold maxLen;omega) (by omega) (by simp;omega) (w2.heap.size+1) (by simp) ?_;intro g cap w3 aH aC aS cD;have bD:=((aC.block X (by simp;omega) (fun e=>by have:=r1_lt HX.out _ e.symm;omega)).trans (Below.heap_alloc _ _ _ (by omega))).trans aI;have x2'':w3.cell? ⟨X,2,none⟩=some (.slice xa k xc):=(by simp[World.cell?,bD]);have xf'':w3.frozen? ⟨X,2,none⟩=false:=(by simp[World.frozen?,bD]))
     | (go_simp;go_at_call 114;refine HC.out.mono ?_;rintro e w2 ⟨aD,g0,g1,g2,L3,L4,rfl,aJ,bT,bU,ho,hl⟩;obtain⟨u0,ua,ul,uc,ya,yl,yc,rfl,rfl,rfl⟩:=aJ.shape;have cA:wr.heap.size<=w2.heap.size:=aD.size;have aI:=(aD.block X (by simpa using bZ)).trans HL.out.box;have bJ:∀ o,(w2.alloc o).ownsRow wc.heap.size 55 3 (.slice xa k xc) k xs:=(fun o=>(qbG HX.out (fun g' hg'=>aD.block g' (by have:=r1_lt HX.out g' hg';simp;omega))).alloc o);have x2':w2.cell? ⟨X,2,none⟩=some (.slice xa k xc):=(by simp[World.cell?,aI]);have x2a:(w2.alloc (.cells #[.int .i64 u0,.slice ua ul uc,.slice ya yl yc] 55)).cell? ⟨X,2,none⟩=some (.slice xa k xc):=(World.cell?_of_block (Below.heap_alloc _ _ _ (by show X<_;omega))).trans x2'))
    all_goals
     have HF:Hid (KOutLoop X n (Kd.kids t) s (.slice va vl vc) wc (k+1) (.slice (some ⟨g,0,none⟩) (k+1) cap) (w3.setCell ⟨X,2,none⟩ (.slice (some ⟨g,0,none⟩) (k+1) cap))):=
      xcN (W:=wr.drew) HL.out.near bX HL.out.box aO HX.out aW.out.1 aW.out.2.1 aW.out.2.2 rfl ⟨rfl,rfl,rfl⟩ aD aJ bT bU ho hl aH aC aS
     clear aH aC aS aJ aD bT bU ho hl bJ x2' x2a x2'' xf'' bD aI
     go_wp2_with fail
     go_roundw
     case rel=>exact⟨k+1,_,by omega,by go_num,HF.out⟩
     case measure=>simp[intOf];omega
   ·have bK:k=(Kd.kids t).length:=by omega
    have aP:wr.heap[w.heap.size]?=some (.cells #[.int .i64 0,.slice none 0 0,.slice none 0 0] 55 (0,0)):=(bC.block _ (by omega) (by omega)).trans aM.out.zero
    obtain⟨⟨r0,r1,r2⟩,f0,f1,f2⟩:=qeZ aP
    have HP:Hid (qlJ (n+1) t w (.returned (.agg #[.int .i64 s,.slice va vl vc,.slice xa k xc])) (put3 wr w.heap.size 0 (.int .i64 s) (.slice va vl vc) (.slice xa k xc))):=by
     have h1:=HL.out
     rw[bK]at h1 ⊢
     exact xgO aM.out HS.out bV (by omega) bW.out (by omega) h1
    clear bK aF HX aW HL aP
    go_wp2_with fail
    refine bodyPost_ret (v:=.agg #[.int .i64 s,.slice va vl vc,.slice xa k xc]) (by simp[results,Tryz.results114,go_sem,r0,r1,r2]) rfl ?_
    exact HP.out
theorem qpY:∀ n,qpX n:=by
 intro n
 induction n with
 | zero=>intro S t v d w h;exact h.elim
 | succ n ih=>exact qnQ n ih
end Go.Proofs.YtelogmjfekhmpaaGreatDoor
