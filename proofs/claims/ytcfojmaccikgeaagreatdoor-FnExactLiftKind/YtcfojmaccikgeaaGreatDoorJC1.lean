import Derived.Test.YtcfojmaccikgeaaGreatDoorB32
import Derived.Test.YtcfojmaccikgeaaGreatDoorB6
import Derived.Test.YtcfojmaccikgeaaGreatDoorB17
import Derived.Test.YtcfojmaccikgeaaGreatDoorB41
import Derived.Test.YtcfojmaccikgeaaGreatDoorB28
import Derived.Deep.RegionHeldLaw
import Derived.Deep.RegionLaw
import Derived.Deep.Cut
import Derived.Deep.CutRange
import Derived.Lib.Hide
import Derived.WalkSmall
import Derived.LoopTactic
open Go.Value renaming slice→Zs,int→Zi,string→Zt
open Go.IntKind renaming i64→Zk
open Go.Obj renaming cells→Zc
open Option renaming none→Zn,some→Zo
namespace Go.Proofs.YtcfojmaccikgeaaGreatDoor
set_option maxRecDepth 100000
set_option maxHeartbeats 16000000
open Go.RowKit Go.Proofs.Tryz
variable {k:List ByteArray} {X g nl cap E:Nat} {W2 w5 V:World}
def sw(L:Nat)(r:K (L+1))(w:World)(e:Ending)(w':World):Prop:=
 Bw w w' /\ ∃a c d,e=.returned (.agg #[a,c,d])/\a8 (fun b=>w.heap.size<=b/\b<w'.heap.size) w' (L+1) r a c d
def qj(n:Nat):Prop:=∀(L:Nat)(S:Nat->Prop)(k:K n)(g:Nat)(c0 c1 c2:Value)(w:World),n<=L->fK n k (g:Int)=true->fP n k<=40->a8 S w n k c0 c1 c2->(Bd S w) ->
 Calls prog 33 #[.agg #[c0,c1,c2]] w (sw L (fQ L n k) w)
structure Ii(k:List ByteArray)(so:Int)(nv:Value)(X:Nat)(W2 W:World):Prop where
 below:Bw W2 W
 box:W.heap[X]?=Zo (Zc #[Zi Zk so,nv,Zs Zn 0 0] 31 (0,0))
 names:fL (fun b=>W2.heap.size<=b/\b<W.heap.size/\b≠X) W k nv
 x:W2.heap.size<=X
theorem sH {so:Int} {c:Value} {U:World} (a:Bw W2 U) (e:U.heap[X]?=Zo (Zc #[Zi Zk 0,Zs Zn 0 0,Zs Zn 0 0] 31 (0,0))) (d:W2.heap.size<=X) (f:fL (fun b=>W2.heap.size<=b/\b<U.heap.size/\b≠X) U k c) :
  Ii k so c X W2 (((U.setCell ⟨X,0,Zn⟩ (Zi Zk so)).setCell ⟨X,1,Zn⟩ c).setCell ⟨X,2,Zn⟩ (Zs Zn 0 0)):=by refine⟨gN a d,?_,f.keep (fun b a=>gi a.2.2) (fun b a=>⟨a.1,by rw[jZ];exact a.2.1,a.2.2⟩),d⟩;simp[World.setCell,Array.getElem?_modify,e]
theorem uQ{e:TypeId}(a:w5.ownsRow W2.heap.size e 1 (Zs (Zo ⟨g,0,Zn⟩) nl cap) nl (k.map Zt))(f:k.length=nl)(i:nl<=20000)(d:∀x,x∈k->x.size<=10000)(j:g≠X):fL (fun b=>W2.heap.size<=b/\b<w5.heap.size/\b≠X) w5 k (Zs (Zo ⟨g,0,Zn⟩) nl cap):=by
 subst f;refine jt a i d fun q c=>?_;have h:=fR a q c;have e:g=q:=by simpa [Value.ownBlock] using c
 exact⟨h.1,h.2,om⟩
theorem Bb (c:Bw W2 V) (d:V.grownBy w5 (Zo E)) (h:W2.heap.size<=E) (e:w5.ownsRow W2.heap.size 9 1 (Zs (Zo ⟨g,0,Zn⟩) nl cap) nl (k.map Zt)) (j:k.length=nl) (m:nl<=20000) (i:∀ x,x∈k->x.size<=10000) (n:g<w5.heap.size) :
  Bw W2 w5/\Bw W2 (w5.alloc (Zc #[Zi Zk 0,Zs Zn 0 0,Zs Zn 0 0] 31))/\(w5.alloc (Zc #[Zi Zk 0,Zs Zn 0 0,Zs Zn 0 0] 31)).heap[w5.heap.size]?=Zo (Zc #[Zi Zk 0,Zs Zn 0 0,Zs Zn 0 0] 31 (0,0))/\W2.heap.size<=w5.heap.size /\
   fL (fun b=>W2.heap.size<=b/\b<(w5.alloc (Zc #[Zi Zk 0,Zs Zn 0 0,Zs Zn 0 0] 31)).heap.size/\b≠w5.heap.size) (w5.alloc (Zc #[Zi Zk 0,Zs Zn 0 0,Zs Zn 0 0] 31)) k (Zs (Zo ⟨g,0,Zn⟩) nl cap):=by have a:Bw W2 w5:=c.grown d c.size (fun q l=>by cases l;exact h);have f:=a.size;refine⟨a,a.alloc f _,heap_alloc_new _ _,f,?_⟩;exact (uQ (X:=w5.heap.size) e j m i om).keep (fun b c=>Below.heap_alloc _ _ _ c.2.1) (fun b c=>⟨c.1,zE,c.2.2⟩)
theorem qU (h:Bw W2 V) (a:V.grownBy w5 (Zo E)) (j:W2.heap.size<=E) (c:w5.ownsRow W2.heap.size 9 1 (Zs (Zo ⟨g,0,Zn⟩) nl cap) nl (k.map Zt)) (m:k.length=nl) (o:nl<=20000) (l:∀ x,x∈k->x.size<=10000) (p:g=E∨g=V.heap.size) (f:X≠E)
  (i:V.heap[X]?=Zo (Zc #[Zi Zk 0,Zs Zn 0 0,Zs Zn 0 0] 31 (0,0))) :
  Bw W2 w5/\w5.heap[X]?=Zo (Zc #[Zi Zk 0,Zs Zn 0 0,Zs Zn 0 0] 31 (0,0)) /\
   fL (fun b=>W2.heap.size<=b/\b<w5.heap.size/\b≠X) w5 k (Zs (Zo ⟨g,0,Zn⟩) nl cap):=by have d:X<V.heap.size:=(Array.getElem?_eq_some_iff.1 i).1;exact⟨h.grown a h.size (fun q n=>by cases n;exact j),(a.block X d (fun e=>f (by simpa using e))).trans i,uQ c m o l om⟩
theorem Cv(n:Nat)(hn:qj n):qj (n+1):=by
 intro L S k g c0 c1 c2 w hL hg aE hk hB;obtain⟨L,rfl⟩:∃L',L=L'+1:=⟨L-1,om⟩;obtain⟨bH,bn,bJ,aC⟩:=xF hg aE;obtain⟨rfl,aY,h3,h4⟩:=hk;obtain⟨na,T,rfl,-⟩:=id h3;obtain⟨ka,kc,rfl,-,bo⟩:=id h4;have bE:Hid (fL S w (Kd.names k) (Zs na (Kd.names k).length T)):=h3;have bv:Hid (∀i (hi:i<(Kd.kids k).length),∃b off c0 c1 c2,ka=Zo ⟨b,off,Zn⟩/\S b/\w.cell? ⟨b,off+i*3,Zn⟩=Zo c0/\w.cell? ⟨b,off+i*3+1,Zn⟩=Zo c1/\w.cell? ⟨b,off+i*3+2,Zn⟩=Zo c2/\a8 S w n (Kd.kids k)[i] c0 c1 c2):=fun i hi=>by obtain⟨b,off,e,F,aN⟩:=bo (fun e=>by rw[e]at hi;simp at hi);obtain⟨c0,c1,c2,q0,q1,q2,H⟩:=aN i hi;exact⟨b,off,c0,c1,c2,e,F,q0,q1,q2,H⟩
 have bI:Hid (∀x,x∈Kd.kids k->fK n x ((g+1:Nat):Int)=true/\fP n x<=40):=fun x hx=>by have:=aC x hx;rwa [show ((g:Int)+1)=((g+1:Nat):Int) by omega]at this
 have HN:Hid (qj n):=hn;have ao:Hid (Bd S w):=hB;have bu:Hid ((Lit.int Zk (Kd.sort k)).wf=true):=aY;have aL:Hid (∀x,x∈Kd.names k->x.size<=10000):=bn;generalize hs:Kd.sort k=so at *;obtain⟨D,O⟩:∃D,(Kd.kids k).length=D:=⟨_,rfl⟩;obtain⟨z,P⟩:∃z,(Kd.names k).length=z:=⟨_,rfl⟩;rw[O]at bJ;rw[P]at bH;rw[O,P];have y:Hid ((Kd.kids k).length=D/\(Kd.names k).length=z/\Kd.sort k=so):=⟨O,P,hs⟩;obtain⟨d,Q⟩:=iw ((w.alloc (Zc #[Zi Zk so,Zs na z T,Zs ka D kc] 31)).alloc (Zc #[Zi Zk 0,Zs Zn 0 0,Zs Zn 0 0] 31));have au:d.heap.size=w.heap.size+2:=by rw[Q];simp
 have aI:Bw w d:=by rw[Q];exact (gF _ _).alloc zS _
 have aQ:d.heap[w.heap.size]?=Zo (Zc #[Zi Zk so,Zs na z T,Zs ka D kc] 31 (0,0)):=by rw[Q,Below.heap_alloc _ _ _ zS];exact heap_alloc_new _ _
 have bl:d.heap[w.heap.size+1]?=Zo (Zc #[Zi Zk 0,Zs Zn 0 0,Zs Zn 0 0] 31 (0,0)):=by have:=heap_alloc_new (w.alloc (Zc #[Zi Zk so,Zs na z T,Zs ka D kc] 31)) (Zc #[Zi Zk 0,Zs Zn 0 0,Zs Zn 0 0] 31);rw[show (w.alloc (Zc #[Zi Zk so,Zs na z T,Zs ka D kc] 31)).heap.size=w.heap.size+1 by simp]at this;rw[Q];exact this
 have HW:Hid (Bw w d/\d.heap.size=w.heap.size+2):=⟨aI,au⟩;have bR:w.heap.size+2<=d.heap.size:=Nat.le_of_eq au.symm;have bN:d.heap.size<=w.heap.size+2:=Nat.le_of_eq au;have HC:Hid (∀W,Bw d W->W.cell? ⟨w.heap.size,0,Zn⟩=Zo (Zi Zk so)/\W.cell? ⟨w.heap.size,1,Zn⟩=Zo (Zs na z T)):=fun W hW=>by have e:=(hW.block w.heap.size om).trans aQ;exact⟨by simp[World.cell?,e],by simp[World.cell?,e]⟩
 have A:Hid (∀W,Bw d W->((Kd.names k).map Value.string).length=z*1/\(∀u∈(Kd.names k).map Value.string,u.oneCell'=true)/\(0<z->∃ad,na=Zo ad/\∀j u,((Kd.names k).map Value.string)[j]?=Zo u->W.cell? (ad.add j)=Zo u)):=fun W hW=>by have hN:=bE.out;rw[y.out.2.1]at hN;exact vm y.out.2.1 hN (fun b F=>(hW.block b (by have:=ao.out b F;omega)).trans (aI.block b (ao.out b F)))
 obtain⟨aF,ae,af,ap,ag⟩:=info_parts Tryz.info_strD;have r:Hid (_/\_/\_/\_):=⟨ae,af,ap,ag⟩;have aX:Hid (d.heap[w.heap.size]?=Zo (Zc #[Zi Zk so,Zs na z T,Zs ka D kc] 31 (0,0))/\d.heap[w.heap.size+1]?=Zo (Zc #[Zi Zk 0,Zs Zn 0 0,Zs Zn 0 0] 31 (0,0))):=⟨aQ,bl⟩;clear h3 h4 bo bn hn hB aY hg aE aC aQ bl O P hs ae af ap ag aI au;go_in;go_upto_region 1 with fail;rw[<- Q];clear Q;go_cut [3] from 5 to 30 (fun pv wx=>∃(X:Nat)(nv:Value),pv=.pointer (Zo ⟨X,0,Zn⟩)/\Ii (Kd.names k) so nv X d wx);case first=>
  have am:Bw d d.drew:=(Below.refl _ _).drew;refine wp_region_held_drew (S:=fun w'=>w'.cell? ⟨w.heap.size,0,Zn⟩=Zo (Zi Zk so)/\w'.cell? ⟨w.heap.size,1,Zn⟩=Zo (Zs na z T)) zK (HC.out _ am) (fun hHeld=>?_);refine wpAnyH_take (i:=0) (v:=?_) rfl zK zK zK (fun _ _ _ h=>h) (Or.inl ⟨by rfl,?_⟩) (by assumption) ?_;rotate_left 1;·(intro wq hSw;(try dsimp only at hSw);go_simp;first|done|with_reducible rfl)
  refine wpAnyH_take (i:=1) (v:=?_) rfl zK zK zK (fun _ _ _ h=>h) (Or.inl ⟨by rfl,?_⟩) (by assumption) ?_;rotate_left 1;·(intro wq hSw;(try dsimp only at hSw);go_simp;first|done|with_reducible rfl)
  refine wpAnyH_take (i:=3) (v:=?_) rfl zK zK zK (fun _ _ _ h=>h) (Or.inl ⟨by rfl,?_⟩) (by assumption) ?_;rotate_left 1;·(intro wq hSw;(try dsimp only at hSw);go_simp;first|done|with_reducible rfl)
  refine wpAnyH_take (i:=4) (v:=?_) rfl zK zK zK (fun _ _ _ h=>h) (Or.inl ⟨by rfl,?_⟩) (by assumption) ?_;rotate_left 1;·(intro wq hSw;(try dsimp only at hSw);go_simp;first|done|with_reducible rfl)
  refine wpAnyH_ready (rs:=[2,7]) zK zS ?_;refine AllReadyH.cons rfl (fun K hK=>?_) (AllReadyH.cons rfl (fun K hK=>?_) AllReadyH.nil)
  ·go_simp;refine hK.out _ _ (HC.out _ (kR am)) (fun hHeld=>?_);clear hK K;obtain⟨VA,ai⟩:∃V,V=(d.alloc (Zc #[] 9)).drew:=⟨_,rfl⟩;rw[<- ai];have aa:Bw d VA:=by rw[ai];exact kR am
   have eA:VA.heap[d.heap.size]?=Zo (Zc #[] 9 (0,0)):=by rw[ai];exact heap_alloc_new d _
   have sA:d.heap.size+1<=VA.heap.size:=by rw[ai];show _<=(d.alloc _).heap.size;simp
   clear ai;refine wpAnyH_ready (rs:=[5,7]) zK zS ?_;refine AllReadyH.cons rfl (fun K hK=>?_) (AllReadyH.cons rfl (fun K hK=>?_) AllReadyH.nil)
   ·refine lQ VA (by rfl) (.tmp 7) (.tmp 9) 23 (by rfl) d.heap.size 9 aF _ 1 16 underlying23 r.out.1 r.out.2.1 r.out.2.2.1 r.out.2.2.2 rfl zC (d.heap.size) (by rfl) eA om na z T ((Kd.names k).map Zt) (by rfl) (A.out _ aa).1 (A.out _ aa).2.2 (A.out _ aa).2.1 (by unfold maxLen;omega) om VA.heap.size rfl ?_;intro g cap w5 p f J ac;obtain⟨m,av,ay,aP,aT⟩:=Bb aa f (Nat.le_refl _) p y.out.2.1 om aL.out ac;refine hK.out _ _ (HC.out _ m) (fun hHeld=>?_);clear hK K p f J;refine wpAnyH_take (i:=6) (v:=?_) rfl zK zK zK (fun _ _ _ h=>h) (Or.inl ⟨by rfl,?_⟩) (by assumption) ?_;rotate_left 1;·(intro wq hSw;(try dsimp only at hSw);go_simp;first|done|with_reducible rfl)
    refine iT 7 fun K hK=>?_;go_simp;refine hK.out _ _ (HC.out _ av) (fun hHeld=>?_);clear hK K hHeld;obtain⟨X,hX⟩:=iw w5.heap.size;rw[<- hX]at ay aP aT ⊢;obtain⟨U,hU⟩:∃V,V=w5.alloc (Zc #[Zi Zk 0,Zs Zn 0 0,Zs Zn 0 0] 31):=⟨_,rfl⟩;rw[<- hU];rw[<- hU]at av ay aT;clear hX hU m ac;obtain⟨⟨r0,r1,r2⟩,f0,f1,f2⟩:=fM ay;have HF:=Lib.hid (sH (so:=so) av ay aP aT);have l:=HC.out _ (gN (g0:=Zi Zk so) (g1:=(Zs (Zo ⟨g,0,Zn⟩) z cap)) (g2:=Zs Zn 0 0) av aP);refine iT 8 fun K hK=>?_;go_simp;refine hK.out _ _ l (fun hHeld=>?_);clear hK K l r0 r1 r2 f0 f1 f2;refine wpAnyH_done zK ?_ _;go_wp2;go_meet;exact⟨X,_,rfl,HF.out⟩
   ·go_simp;have Y:=aa.alloc aa.size (Zc #[Zi Zk 0,Zs Zn 0 0,Zs Zn 0 0] 31);have zB:=heap_alloc_new VA (Zc #[Zi Zk 0,Zs Zn 0 0,Zs Zn 0 0] 31);have eB:=(Below.heap_alloc VA (Zc #[Zi Zk 0,Zs Zn 0 0,Zs Zn 0 0] 31) d.heap.size om).trans eA;refine hK.out _ _ (HC.out _ Y) (fun hHeld=>?_);clear hK K;obtain⟨X,hX⟩:=iw VA.heap.size;rw[<- hX]at zB ⊢;obtain⟨VB,aG⟩:∃V,V=VA.alloc (Zc #[Zi Zk 0,Zs Zn 0 0,Zs Zn 0 0] 31):=⟨_,rfl⟩;rw[<- aG];rw[<- aG]at Y zB eB;have ak:d.heap.size<X:=om;clear aG hX;refine iT 5 fun K hK=>?_;refine lQ VB (by rfl) (.tmp 7) (.tmp 9) 23 (by rfl) d.heap.size 9 aF _ 1 16 underlying23 r.out.1 r.out.2.1 r.out.2.2.1 r.out.2.2.2 rfl zC (d.heap.size) (by rfl) eB om na z T ((Kd.names k).map Zt) (by rfl) (A.out _ Y).1 (A.out _ Y).2.2 (A.out _ Y).2.1 (by unfold maxLen;omega) om VB.heap.size rfl ?_;intro g cap w5 p f J ac;obtain⟨m,aq,aO⟩:=qU (X:=X) Y f (Nat.le_refl _) p y.out.2.1 om aL.out J om zB;refine hK.out _ _ (HC.out _ m) (fun hHeld=>?_);clear hK K p f J;refine wpAnyH_take (i:=6) (v:=?_) rfl zK zK zK (fun _ _ _ h=>h) (Or.inl ⟨by rfl,?_⟩) (by assumption) ?_;rotate_left 1;·(intro wq hSw;(try dsimp only at hSw);go_simp;first|done|with_reducible rfl)
    obtain⟨⟨r0,r1,r2⟩,f0,f1,f2⟩:=fM aq;have HF:=Lib.hid (sH (so:=so) m aq (Nat.le_of_lt ak) aO);have l:=HC.out _ (gN (g0:=Zi Zk so) (g1:=(Zs (Zo ⟨g,0,Zn⟩) z cap)) (g2:=Zs Zn 0 0) m (Nat.le_of_lt ak));refine iT 8 fun K hK=>?_;go_simp;refine hK.out _ _ l (fun hHeld=>?_);clear hK K l r0 r1 r2 f0 f1 f2;refine wpAnyH_done zK ?_ _;go_wp2;go_meet;exact⟨X,_,rfl,HF.out⟩
  ·go_simp;refine hK.out _ _ (HC.out _ (kR am)) (fun hHeld=>?_);clear hK K;obtain⟨X,hX⟩:=iw d.heap.size;obtain⟨VC,aj⟩:∃V,V=(d.alloc (Zc #[Zi Zk 0,Zs Zn 0 0,Zs Zn 0 0] 31)).drew:=⟨_,rfl⟩;rw[<- aj];have be:Bw d VC:=by rw[aj];exact kR am
   have zQ:VC.heap[X]?=Zo (Zc #[Zi Zk 0,Zs Zn 0 0,Zs Zn 0 0] 31 (0,0)):=by rw[aj,hX];exact heap_alloc_new d _
   have sC:d.heap.size+1<=VC.heap.size:=by rw[aj];show _<=(d.alloc _).heap.size;simp
   have ak:d.heap.size<=X:=Nat.le_of_eq hX.symm;have bY:X<=d.heap.size:=Nat.le_of_eq hX;rw[<- hX];clear hX;clear aj;refine iT 2 fun K hK=>?_;go_simp;have Z:=be.alloc be.size (Zc #[] 9);have eD:=heap_alloc_new VC (Zc #[] 9);have zD:=(Below.heap_alloc VC (Zc #[] 9) X om).trans zQ;refine hK.out _ _ (HC.out _ Z) (fun hHeld=>?_);clear hK K;obtain⟨E,hE⟩:=iw VC.heap.size;rw[<- hE]at eD ⊢;obtain⟨VD,aJ⟩:∃V,V=VC.alloc (Zc #[] 9):=⟨_,rfl⟩;rw[<- aJ];rw[<- aJ]at Z eD zD;have bG:d.heap.size<=E:=om;have bZ:X≠E:=om;clear aJ hE;refine iT 5 fun K hK=>?_;refine lQ VD (by rfl) (.tmp 7) (.tmp 9) 23 (by rfl) d.heap.size 9 aF _ 1 16 underlying23 r.out.1 r.out.2.1 r.out.2.2.1 r.out.2.2.2 rfl zC (E) (by rfl) eD om na z T ((Kd.names k).map Zt) (by rfl) (A.out _ Z).1 (A.out _ Z).2.2 (A.out _ Z).2.1 (by unfold maxLen;omega) om VD.heap.size rfl ?_;intro g cap w5 p f J ac;obtain⟨m,aq,aO⟩:=qU (X:=X) Z f bG p y.out.2.1 om aL.out J om zD;refine hK.out _ _ (HC.out _ m) (fun hHeld=>?_);clear hK K p f J;refine wpAnyH_take (i:=6) (v:=?_) rfl zK zK zK (fun _ _ _ h=>h) (Or.inl ⟨by rfl,?_⟩) (by assumption) ?_;rotate_left 1;·(intro wq hSw;(try dsimp only at hSw);go_simp;first|done|with_reducible rfl)
   obtain⟨⟨r0,r1,r2⟩,f0,f1,f2⟩:=fM aq;have HF:=Lib.hid (sH (so:=so) m aq ak aO);have l:=HC.out _ (gN (g0:=Zi Zk so) (g1:=(Zs (Zo ⟨g,0,Zn⟩) z cap)) (g2:=Zs Zn 0 0) m ak);refine iT 8 fun K hK=>?_;go_simp;refine hK.out _ _ l (fun hHeld=>?_);clear hK K l r0 r1 r2 f0 f1 f2;refine wpAnyH_done zK ?_ _;go_wp2;go_meet;exact⟨X,_,rfl,HF.out⟩
 case rest=>
  obtain⟨X,nv,rfl,C⟩:=hcut;have bM:=C.x;obtain⟨I,N,rfl,-⟩:=id C.names;have bh:=a7 C;have bU:=C.below.size;have bW:X<wc.heap.size:=(Array.getElem?_eq_some_iff.1 C.box).1;have bd:Bw w wc:=b4 HW.out.1 HW.out.1.size C.below;have ab:=a7 bd;have aM:Hid (wc.heap[w.heap.size]?=Zo (Zc #[Zi Zk so,Zs na z T,Zs ka D kc] 31 (0,0))/\wc.heap[w.heap.size+1]?=Zo (Zc #[Zi Zk 0,Zs Zn 0 0,Zs Zn 0 0] 31 (0,0))):=⟨(C.below.block _ om).trans aX.out.1,(C.below.block _ om).trans aX.out.2⟩;have k2:wc.cell? ⟨w.heap.size,2,Zn⟩=Zo (Zs ka D kc):=kM aM.out.1 2 _ rfl;clear C bd;go_wp2;go_loopw [4] (fun iv wr=>∃(i:Nat)(a:Option Addr)(c:Nat),i<=D/\iv=Zi Zk i/\(∀b,b<wc.heap.size->b≠X->wr.heap[b]?=wc.heap[b]?)/\lz w.heap.size X (L+1) wc wr so (Zs I (Kd.names k).length N) (((Kd.kids k).take i).map (fQ L n)) (Zs a i c)) (fun iv _=>D-(intOf iv).toNat);case atStart=>exact⟨0,Zn,0,om,rfl,fun _ _ _=>rfl,lz.start bh.out.box⟩
  case round=>
   obtain⟨i,a,c,hi,rfl,aH,hG⟩:=hrel;have bV:=hG.near.size;have bj:=hG.lt;have HG:=a7 hG;have ax:Hid ((((Kd.kids k).take i).map (fQ L n)).length=i):=by show _=_;have:=y.out.1;rw[List.length_map,List.length_take];omega
   have G:Hid (∀b,b<wc.heap.size->b≠X->wr.heap[b]?=wc.heap[b]?):=aH;have bk:Hid (wr.heap[w.heap.size]?=Zo (Zc #[Zi Zk so,Zs na z T,Zs ka D kc] 31 (0,0))):=(aH _ om om).trans aM.out.1;have y2:wr.cell? ⟨w.heap.size,2,Zn⟩=Zo (Zs ka D kc):=kM bk.out 2 _ rfl;clear hG k2 aH;by_cases ac:i<D;case pos=>
    have bP:(i:Int)<(D:Int):=om;have aU:i<(Kd.kids k).length:=by have:=y.out.1;omega
    obtain⟨kb,an,e0,e1,e2,bD,ar,f0,f1,f2,H⟩:=bv.out i aU;have bQ:=ao.out kb ar;have t:∀b,S b->wr.heap[b]?=w.heap[b]?:=fun b F=>by have:=ao.out b F;exact (G.out b om om).trans (ab.out.block b this)
    have q0:=(World.cell?_of_block (a:=⟨kb,an+i*3,Zn⟩) (t kb ar)).trans f0;have q1:=(World.cell?_of_block (a:=⟨kb,an+i*3+1,Zn⟩) (t kb ar)).trans f1;have q2:=(World.cell?_of_block (a:=⟨kb,an+i*3+2,Zn⟩) (t kb ar)).trans f2;obtain⟨u0,ua,ul,uc,ta,tl,tc,rfl,rfl,rfl⟩:=H.shape;obtain⟨bq,bg⟩:=bI.out _ (List.getElem_mem aU);have bF:Hid (Calls prog 33 #[.agg #[Zi Zk u0,Zs ua ul uc,Zs ta tl tc]] wr.drew (sw L (fQ L n (Kd.kids k)[i]) wr.drew)):=
     HN.out L S _ (g+1) _ _ _ wr.drew om bq bg (a8.keep (w':=wr.drew) t (fun _ h=>h) H) (fun b F=>by have:=ao.out b F;show b<wr.heap.size;omega)
    obtain⟨xs,aK,aW⟩:=HG.out.kids;have bC:=a7 aW;have HX:Hid (wr.ownsRow wc.heap.size 31 3 (Zs a i c) i xs):=by rw[ax.out]at aK;exact aK
    have x2:wr.cell? ⟨X,2,Zn⟩=Zo (Zs a i c):=kM HG.out.box 2 _ rfl;obtain⟨bw,ae,af,ap,ag⟩:=info_parts Tryz.info_kindD;have aw:Hid (_/\_/\_/\_):=⟨ae,af,ap,ag⟩;have bL:Hid (((Kd.kids k).take (i+1)).map (fQ L n)=((Kd.kids k).take i).map (fQ L n)++[fQ L n (Kd.kids k)[i]]):=by show _=_;rw[List.take_succ_eq_append_getElem aU,List.map_append];rfl
    clear ae af ap ag aK aW t f0 f1 f2 H bq bg;subst bD;go_wp2_with fail;go_region_law (first
      | (refine step_append_lies _ (by rfl) (.tmp 20) (.tmp 27) 29 (by rfl) wc.heap.size 31 bw _ 3 56 underlying29 aw.out.1 aw.out.2.1 aw.out.2.2.1 aw.out.2.2.2 rfl zC (Zs a i c) i xs (by rfl) (bp _) ⟨v2.heap.size,0,Zn⟩ 1 1 [Zi Zk y0,Zs ya yl yc,Zs za zl zc] (by rfl) rfl (World.news_of_block (heap_alloc_new v2 _)) (by simp[Value.oneCell']) zC (by unfold maxLen;omega) om zE (v2.heap.size+1) zS ?_;intro g2 al v3 ah s aB br;have aS:=(((s.block X zE (fun e=>by have:=fR HX.out _ e.symm;omega)).trans (Below.heap_alloc _ _ _ om)).trans (m.block X (by simpa using bj))).trans HG.out.box;have aV:v3.cell? ⟨X,2,Zn⟩=Zo (Zs a i c):=(by simp[World.cell?,aS]);have bc:v3.frozen? ⟨X,2,Zn⟩=false:=(by simp[World.frozen?,aS]))
      | (go_simp;go_at_call 33;refine bF.out.mono ?_;rintro e v2 ⟨m,ca,bX,bT,rfl,aR⟩;obtain⟨y0,ya,yl,yc,za,zl,zc,rfl,rfl,rfl⟩:=aR.shape;have az:=b7.of_below (bb:=w.heap.size) m;have bO:wr.heap.size<=v2.heap.size:=az.size;have bp:=fun o=>EQ (R:=w.heap.size) (M:=wc.heap.size) (W:=wr.drew) HX.out.drew om az o;have ba:v2.cell? ⟨X,2,Zn⟩=Zo (Zs a i c):=(World.cell?_of_block (m.block X (by simpa using bj))).trans x2;have bK:(v2.alloc (Zc #[Zi Zk y0,Zs ya yl yc,Zs za zl zc] 31)).cell? ⟨X,2,Zn⟩=Zo (Zs a i c):=(World.cell?_of_block (Below.heap_alloc _ _ _ (by show X<_;omega))).trans ba))
    all_goals
     have hF:=lz.kid (W:=wr.drew) (W1:=v2) (Wa:=v2.alloc (Zc #[Zi Zk y0,Zs ya yl yc,Zs za zl zc] 31)) (one:=Zc #[Zi Zk y0,Zs ya yl yc,Zs za zl zc] 31) (g:=g2) (cap:=al) (xs:=xs)
       (HG.out.keep om om ((b7.refl w.heap.size wr).drew)) om om om az aR rfl ⟨rfl,rfl,rfl⟩ (by rw[ax.out];exact HX.out.drew)
       (fun q hq=>by obtain⟨a0,a1,a2,hd,bt⟩:=bC.out q hq;exact⟨a0,a1,a2,hd,a8.keep (w:=wr) (w':=wr.drew) (fun _ _=>rfl) (fun _ h=>h) bt⟩) (by rw[ax.out];exact ah) s aB
     rw[ax.out,<- bL.out]at hF
     have HF:=a7 hF
     have bx:Hid (∀b,b<wc.heap.size->b≠X->(v3.setCell ⟨X,2,Zn⟩ (Zs (Zo ⟨g2,0,Zn⟩) (i+1) al)).heap[b]?=wc.heap[b]?):=fun b F bm=>by
      rw[Below.heap_setCell _ _ _ _ (by show b≠X;exact bm),Ba (b:=b) (W:=wr.drew) (w2:=v2) HX.out.drew om F s]
      exact (m.block b (by show b<wr.heap.size;omega)).trans (G.out b F bm)
     clear hF ah s aB br aR az m bp ba bK aV bc aS
     go_wp2
     go_roundw
     case rel=>exact⟨i+1,Zo ⟨g2,0,Zn⟩,al,om,by go_num,bx.out,HF.out⟩
     case measure=>simp[intOf];omega
   have bS:¬(i:Int)<(D:Int):=om;obtain rfl:i=D:=by omega
   have bz:wr.heap[w.heap.size+1]?=Zo (Zc #[Zi Zk 0,Zs Zn 0 0,Zs Zn 0 0] 31 (0,0)):=(G.out _ om om).trans aM.out.2;obtain⟨⟨r0,r1,r2⟩,f0,f1,f2⟩:=fM bz;obtain⟨⟨p0,p1,p2⟩,-⟩:=fM HG.out.box;have aD:Hid (sw (L+1) (fQ (L+1) (n+1) k) w (.returned (.agg #[Zi Zk so,Zs I (Kd.names k).length N,Zs a i c])) (ij wr (w.heap.size+1) 0 (Zi Zk so) (Zs I (Kd.names k).length N) (Zs a i c))):=by
    have bB:Bw w wr:=⟨HG.out.near.os.trans ab.out.os,HG.out.near.tape.trans ab.out.tape,HG.out.near.output.trans ab.out.output,by have:=ab.out.size;omega,fun b F=>(G.out b om om).trans (ab.out.block b F)⟩;have bi:((Kd.kids k).take i).map (fQ L n)=(Kd.kids k).map (fQ L n):=by rw[List.take_of_length_le (by have:=y.out.1;omega)]
    refine⟨iP bB om,_,_,_,rfl,?_⟩;have bf:=HG.out;rw[bi]at bf;have aZ:((Kd.kids k).map (fQ L n)).length<=20000:=by have:=y.out.1;rw[List.length_map];omega
    have bA:=bh.out.names.keep (w':=ij wr (w.heap.size+1) 0 (Zi Zk so) (Zs I (Kd.names k).length N) (Zs a i c)) (S':=fun b=>w.heap.size<=b/\b<(ij wr (w.heap.size+1) 0 (Zi Zk so) (Zs I (Kd.names k).length N) (Zs a i c)).heap.size) (fun b F=>(gR om).trans (G.out b F.2.1 F.2.2)) (fun b F=>⟨om,by rw[iq];omega⟩);have:=lz.kind (B:=w.heap.size) (W:=ij wr (w.heap.size+1) 0 (Zi Zk so) (Zs I (Kd.names k).length N) (Zs a i c)) bf bu.out (fun b F=>gR om) (by rw[iq];exact Nat.le_refl _) bA aZ om;rw[<- y.out.2.2]at this ⊢;exact this
   unfold ij at aD;clear hi ac;go_wp2_with fail;refine bodyPost_ret (v:=.agg #[Zi Zk so,Zs I (Kd.names k).length N,Zs a i c]) (by simp[results,results33,go_sem,r0,r1,r2]) rfl ?_;exact aD.out
theorem zF:∀n,qj n:=by
 intro n;induction n with
 | zero=>intro L S k;exact Empty.elim (show Empty from k)
 | succ n a=>exact Cv n a
end Go.Proofs.YtcfojmaccikgeaaGreatDoor
