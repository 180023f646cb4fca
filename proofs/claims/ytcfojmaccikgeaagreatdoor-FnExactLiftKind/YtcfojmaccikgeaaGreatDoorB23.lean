import Derived.Test.YtcfojmaccikgeaaGreatDoorB19
import Derived.Test.YtcfojmaccikgeaaGreatDoorB12
import Derived.Test.YtcfojmaccikgeaaGreatDoorB2
import Derived.Deep.RegionLaw
import Derived.Deep.RegionWith
import Derived.Deep.Cut
import Derived.WalkSmall
import Derived.LoopTactic
import Derived.Test.YtcfojmaccikgeaaGreatDoorB18
import Derived.Defers
import Derived.Recover
import Derived.Test.YtcfojmaccikgeaaGreatDoorB8
import Derived.Test.YtcfojmaccikgeaaGreatDoorB17
open Go.Value renaming slice→Zs,int→Zi,string→Zt,pointer→Zp,agg→Za,tuple→Zu,bool→Zb
open Go.IntKind renaming i64→Zk
open Go.Ending renaming returned→Zr
open Go.Obj renaming cells→Zc
open Option renaming none→Zn,some→Zo
open Go renaming World→Zw,Value→Zv
open Go.RowKit.Below renaming heap_alloc→Zh
namespace Go.Proofs.YtcfojmaccikgeaaGreatDoor
open Go.RowKit Go.Proofs.Tryz
set_option maxRecDepth 100000
set_option maxHeartbeats 16000000
variable {n X m R i k z:Nat} {w W1 w1 W wr w2 w3:Zw} {s:ByteArray} {nv v:Zv} {b:Bool} {e:TypeId} {xs:List Zv} {o:Obj}
theorem Tryz.info_kindO:(prog.info? 31).map (fun i=>(i.zero,i.size,i.bytes))=Zo (Zo (Za #[Zi Zk 0,Zs Zn 0 0,Zs Zn 0 0]),3,56):=by kernel_rfl
def pV(n:Nat)(t:K n)(w:Zw)(e:Ending)(w':Zw):Prop:=
 Bw w w' /\ ∃g a c f d,e=Zr (Za #[g,a,c])/\a8 (fun b=>w.heap.size<=b/\b<w'.heap.size) w' n t g a c/\lW w' a f/\mI w' (n-1) c d /\
  Own (fun b=>w.heap.size<=b/\b<w'.heap.size) (f++d)/\(f++d).length=qO n t
def s8(n:Nat):Prop:=∀(S:Nat->Prop)(t:K n)(v:Zv)(d:Int)(w:Zw),d8 S w n t v->(Bd S w)->fK n t d=true->fP n t<=40->Calls prog 43 #[v] w (pV n t w)
theorem FF{t:K (n+1)}{d:Int}(h:fK (n+1) t d=true):(Lit.int Zk (Kd.sort t)).wf=true:=by
 simp only[fK,Bool.and_eq_true]at h;have a:fW (Kd.sort t) (Kd.names t) (Kd.kids t).length=true:=h.1.2;generalize Kd.sort t=s at *;unfold fW at a;by_cases e:s=1;·subst e;rfl
 by_cases b:s=2;·subst b;rfl
 by_cases f:s=3;·subst f;rfl
 by_cases g:s=4;·subst g;rfl
 by_cases c:s=5;·subst c;rfl
 by_cases i:s=6;·subst i;rfl
 rw[if_neg e,if_neg b,if_neg f,if_neg g,if_neg c,if_neg i]at a;cases a
structure lM(n:Nat)(t:K (n+1))(w:Zw)(X:Nat)(s:Int)(nv:Zv)(W:Zw):Prop where
 below:Bw w W
 zero:W.heap[w.heap.size]?=Zo (Zc #[Zi Zk 0,Zs Zn 0 0,Zs Zn 0 0] 31 (0,0))
 box:W.heap[X]?=Zo (Zc #[Zi Zk s,nv,Zs Zn 0 0] 31 (0,0))
 names:W.ownsRow (w.heap.size+1) 9 1 nv (Kd.names t).length ((Kd.names t).map Zt)
 far:nv.ownBlock≠Zo X
 low:w.heap.size<X
theorem xD {t:K (n+1)} {s:Int} (f:Bw w W1) (g:W1.heap.size=w.heap.size+1) (c:W1.heap[w.heap.size]?=Zo (Zc #[Zi Zk 0,Zs Zn 0 0,Zs Zn 0 0] 31 (0,0))) (b:Bw W1 w1)
  (a:w1.ownsRow W1.heap.size 9 1 nv (Kd.names t).length ((Kd.names t).map Zt)):lM n t w w1.heap.size s nv (w1.alloc (Zc #[Zi Zk s,nv,Zs Zn 0 0] 31)):=by have h:=b.size;have d:=fR a;refine⟨(f.trans (b.mono om)).alloc om _,?_,heap_alloc_new _ _,by rw[<- g];exact a.alloc _,fun e=>by have:=d _ e;omega,om⟩;rw[Zh _ _ _ om,b.block _ om];exact c
theorem Bx {t:K (n+1)} {f:Zw} {s:Int} (i:Bw w W1) (k:W1.heap.size=w.heap.size+1) (d:W1.heap[w.heap.size]?=Zo (Zc #[Zi Zk 0,Zs Zn 0 0,Zs Zn 0 0] 31 (0,0)))
  (b:f=W1.alloc (Zc #[Zi Zk 0,Zs Zn 0 0,Zs Zn 0 0] 31)) (c:Bw f w1)
  (a:w1.ownsRow f.heap.size 9 1 nv (Kd.names t).length ((Kd.names t).map Zt)):lM n t w (w.heap.size+1) s nv (ij w1 (w.heap.size+1) 0 (Zi Zk s) nv (Zs Zn 0 0)):=by
 have p:f.heap.size=w.heap.size+2:=by rw[b];simp;omega
 have u:=c.size;have h:=fR a;have m:w1.heap[w.heap.size+1]?=Zo (Zc #[Zi Zk 0,Zs Zn 0 0,Zs Zn 0 0] 31 (0,0)):=by rw[c.block _ om,b,<- k];exact heap_alloc_new _ _
 have j:Bw w f:=by rw[b];exact i.alloc i.size _
 refine⟨iP (j.trans (c.mono om)) om,?_,?_,?_,fun e=>by have:=h _ e;omega,om⟩;·rw[gR om,c.block _ om,b,Zh _ _ _ om];exact d
 ·simp[ij,World.setCell,Array.getElem?_modify,m]
 ·have q:w1.ownsRow (w.heap.size+1) 9 1 nv (Kd.names t).length ((Kd.names t).map Zt):=by refine⟨a.1,a.2.elim .inl fun ⟨g,cap,l,e,o,r⟩=>.inr ⟨g,cap,l,e,om,r⟩⟩
  exact gg q fun g o=>gR (by have:=h g o;omega)
theorem k7 {N:Nat} (h:w.heap[N]?=Zo (Zc #[Zi Zk 0,Zs Zn 0 0,Zs Zn 0 0] 31 (0,0))) :
  (w.cell? ⟨N,0,Zn⟩=Zo (Zi Zk 0)/\w.cell? ⟨N,1,Zn⟩=Zo (Zs Zn 0 0)/\w.cell? ⟨N,2,Zn⟩=Zo (Zs Zn 0 0)) /\
   w.frozen? ⟨N,0,Zn⟩=false/\w.frozen? ⟨N,1,Zn⟩=false/\w.frozen? ⟨N,2,Zn⟩=false:=by refine⟨⟨?_,?_,?_⟩,?_,?_,?_⟩<;>simp[World.cell?,World.frozen?,h]
theorem Gh {t:K (n+1)} {s:Int} (h:lM n t w X s nv W) (G:Kd.sort t=s) (u:(Lit.int Zk s).wf=true) (hl:(Kd.names t).length<=100) (y:∀ x,x∈Kd.names t->x.size<=10000) (M:(Kd.kids t).length<=100)
  (k:lT X n (Kd.kids t) s nv W (Kd.kids t).length v wr):pV (n+1) t w (Zr (Za #[Zi Zk s,nv,v])) (ij wr w.heap.size 0 (Zi Zk s) nv v):=by
 have H:=h.low;have J:=h.below.size;have aa:=k.near.size;obtain⟨xs,Ps,i,o,m,C⟩:=k.row;have E:=fR i;have f:=fR h.names;have q:∀b,b≠w.heap.size->(ij wr w.heap.size 0 (Zi Zk s) nv v).heap[b]?=wr.heap[b]?:=fun b h=>gR h;have A:(ij wr w.heap.size 0 (Zi Zk s) nv v).heap.size=wr.heap.size:=iq;have Y:X<W.heap.size:=(Array.getElem?_eq_some_iff.1 h.box).1;have d:wr.ownsRow (w.heap.size+1) 9 1 nv (Kd.names t).length ((Kd.names t).map Zt):=gg h.names fun g l=>k.near.block g (f g l).2 (fun e=>h.far (by rw[<- e];exact l));obtain⟨F,O,P,p3⟩:=zg d om;obtain⟨D,R,U,z⟩:=zw i om o m (fun b c=>c.2.2);rw[List.take_length]at C;have r:Own (fun b=>W.heap.size<=b/\b<wr.heap.size) D:=U.mono (fun b c=>c.elim (fun h=>⟨h.1,h.2.1⟩) (fun h=>E b h));have a:Own (fun b=>w.heap.size+1<=b/\b<wr.heap.size) (F++D):=p3.app r (fun b h=>by have:=f b h;omega) (fun b h=>om) (fun b T h2=>by have:=f b T;omega);have B:Bw w wr:=⟨k.near.os.trans h.below.os,k.near.tape.trans h.below.tape,k.near.output.trans h.below.output,om,fun b c=>(k.near.block b om om).trans (h.below.block b c)⟩;refine⟨iP B (Nat.le_refl _),_,_,_,F,D,rfl,⟨by rw[G],by rw[G];exact u,?_,?_⟩,O.same (fun x h=>q _ (by have:=(a.1 x (List.mem_append_left _ h)).1;omega)),R.same (fun x h=>q _ (by have:=(a.1 x (List.mem_append_right _ h)).1;omega)),a.mono (fun b c=>by rw[A];omega),?_⟩;·have Z:=jt (S:=fun b=>w.heap.size+1<=b/\b<wr.heap.size) d om y (fun g l=>by have:=f g l;omega);exact Z.keep (fun b c=>q b om) (fun b c=>by rw[A];omega)
 ·have N:=kt (S:=fun b=>w.heap.size+1<=b/\b<wr.heap.size) i om (fun g l=>by have:=E g l;omega) (fun j Q=>by
   obtain⟨V,L,I,K3,K4,hd,-,p,-⟩:=m.2 j Q om
   exact⟨V,L,I,hd,p.keep (fun _ _=>rfl) (fun b c=>⟨by have:=c.1;omega,c.2.1⟩)⟩)
  exact N.keepK (fun b c=>q b om) (fun b c=>by rw[A];omega)
 ·rw[List.length_append,P,z];show _=(Kd.names t).length+b5 (fun x=>1+qO n x) (Kd.kids t);omega
theorem tW(n:Nat)(hn:s8 n):s8 (n+1):=by
 intro S t v d w aI hB hg hc;have aE:=FF hg;have af:¬Kd.sort t=5->Kd.names t=[]:=nW hg;have ab:Kd.sort t=5->(Kd.names t).length=(Kd.kids t).length/\gW (Kd.names t)=true:=Ca hg;have P:=hg;simp only[fK,Bool.and_eq_true]at P;have am:Hid (∀j (h:j<(Kd.kids t).length),fK n (Kd.kids t)[j] (d+1)=true/\fP n (Kd.kids t)[j]<=40):=by intro j h;refine⟨List.all_eq_true.1 P.2 _ (List.getElem_mem h),?_⟩;have:=gX (fun x=>fP n x) (Kd.kids t) _ (List.getElem_mem h);simp only[fP]at hc;omega
 have aX:(Kd.kids t).length<=40:=by have:=wt (Kd.kids t) P.2;simp only[fP]at hc;omega
 have aY:(Kd.names t).length<=40:=by
  by_cases h5:Kd.sort t=5;·have:=(ab h5).1;omega
  ·rw[af h5];simp
 have ag:∀x,x∈Kd.names t->x.size<=10000:=by
  intro x hx;by_cases h5:Kd.sort t=5;·have:=Ap (ab h5).2 x hx;omega
  ·rw[af h5]at hx;cases hx
 have aM:Hid (∀x,x∈Kd.names t->x.size<=10000):=ag;clear P hg hc af ab;obtain⟨b,nv,pv,kv,rfl,aH,l,hN,-,hK⟩:=aI;obtain⟨na,nc,rfl,-⟩:=id hN;obtain⟨ka,kc,rfl,-,A⟩:=id hK;generalize hs:Kd.sort t=s at *;have HS:Hid (Kd.sort t=s):=hs;clear hs;have D:=hB b aH;have k0:w.cell? ⟨b,0,Zn⟩=Zo (Zi Zk s):=by simp[World.cell?,l]
 have k1:w.cell? ⟨b,1,Zn⟩=Zo (Zs na (Kd.names t).length nc):=by simp[World.cell?,l]
 have k3:w.cell? ⟨b,3,Zn⟩=Zo (Zs ka (Kd.kids t).length kc):=by simp[World.cell?,l]
 obtain⟨O,L⟩:=iw (w.alloc (Zc #[Zi Zk 0,Zs Zn 0 0,Zs Zn 0 0] 31));have ac:O.heap.size=w.heap.size+1:=by rw[L];simp
 have F:Bw w O:=by rw[L];exact gF _ _
 have J:O.heap[w.heap.size]?=Zo (Zc #[Zi Zk 0,Zs Zn 0 0,Zs Zn 0 0] 31 (0,0)):=by rw[L];exact heap_alloc_new _ _
 have j0:=kC F k0 D;have j1:=kC F k1 D;have HC:∀ W,Bw w W->w.heap.size+1<=W.heap.size->Calls prog 88 #[Zs na (Kd.names t).length nc] W.drew fun e w'=>∃ u r y,e=Zr (Zs u r y)/\Bw W w' /\ w'.cell? ⟨b,0,Zn⟩=Zo (Zi Zk s) /\
   w'.ownsRow W.heap.size 9 1 (Zs u r y) (Kd.names t).length ((Kd.names t).map Zt):=by
  intro W aC aU
  refine (tZ S (Kd.names t) _ W.drew (hN.keep (a6 aC.drew hB) (fun _ h=>h)) (fun b R=>by have:=hB b R;simp;omega) om ag).mono ?_
  rintro e w' ⟨v',rfl,f,R⟩
  have ap:Bw W w':=((Below.refl _ _).drew).trans R
  obtain⟨a,c,rfl⟩:=mX f
  exact⟨_,_,_,rfl,ap,kC ap ((aC.cell (p:=⟨b,0,Zn⟩) D).trans k0) om,f⟩
 have av:Hid (Calls prog 88 #[Zs na (Kd.names t).length nc] O.drew _):=HC O F om;have T:Bw w (O.alloc (Zc #[Zi Zk 0,Zs Zn 0 0,Zs Zn 0 0] 31)):=F.alloc F.size _;have aD:Hid (Calls prog 88 #[Zs na (Kd.names t).length nc] (O.alloc (Zc #[Zi Zk 0,Zs Zn 0 0,Zs Zn 0 0] 31)).drew _):=HC _ T zE;have ao:Hid ((O.alloc (Zc #[Zi Zk 0,Zs Zn 0 0,Zs Zn 0 0] 31)).heap[w.heap.size+1]?=Zo (Zc #[Zi Zk 0,Zs Zn 0 0,Zs Zn 0 0] 31 (0,0))):=by rw[<- ac];exact heap_alloc_new _ _
 have Q:Hid (O.heap[w.heap.size]?=Zo (Zc #[Zi Zk 0,Zs Zn 0 0,Zs Zn 0 0] 31 (0,0))/\Bw w O):=⟨J,F⟩;have HK:Hid (lx S w (d8 S w n) (Kd.kids t) (Zs ka (Kd.kids t).length kc)):=hK;have aG:=kC T k0 D;have aJ:=kC T k1 D;clear hN hK ag J l HC T;go_in;go_wp2_with fail;rw[<- L];clear L;go_upto_region 1 with fail;go_cut [3] from 6 (fun v wx=>∃(X:Nat)(u:Option Addr)(r y:Nat),v=Zp (Zo ⟨X,0,Zn⟩)/\lM n t w X s (Zs u r y) wx);case first=>
  go_region_law (first
   | (go_simp;go_at_call 88;refine av.out.mono ?_;rintro e w1 ⟨u,r,y,rfl,m,ax,f⟩;have aO:(w1.alloc (Zc #[Zi Zk 0,Zs Zn 0 0,Zs Zn 0 0] 31)).cell? ⟨b,0,Zn⟩=Zo (Zi Zk s):=((World.cell?_of_block (Zh _ _ _ (by show b<_;have:=m.size;omega))).trans ax))
   | (go_simp;go_at_call 88;refine aD.out.mono ?_;rintro e w1 ⟨u,r,y,rfl,m,ax,f⟩;obtain⟨⟨r0,r1,r2⟩,f0,f1,f2⟩:=k7 ((m.block (w.heap.size+1) zE).trans ao.out)))
  all_goals
   have C:Hid (lM n t w _ s (Zs u r y) _):=(by first|exact xD Q.out.2 ac Q.out.1 m f|exact Bx Q.out.2 ac Q.out.1 rfl m f)
   clear m f
   go_wp2
   go_meet
   exact⟨_,_,_,_,rfl,C.out⟩
 case rest=>
  obtain⟨X,u,r,y,rfl,B⟩:=hcut;have aK:X<wc.heap.size:=(Array.getElem?_eq_some_iff.1 B.box).1;have aR:=B.low;have aW:=kC B.below k3 D;have C:Hid (lM n t w X s (Zs u r y) wc):=B;have aS:=B.below.size;clear B aD av ao j0 j1 aG aJ k0 k1 k3;go_wp2;go_loopw [21] (fun i wr=>∃(k:Nat)(v:Zv),k<=(Kd.kids t).length/\i=Zi Zk k/\lT X n (Kd.kids t) s (Zs u r y) wc k v wr) (fun i _=>(Kd.kids t).length-(intOf i).toNat);case atStart=>exact⟨0,Zs Zn 0 0,Nat.zero_le _,rfl,b7.refl _ _,C.out.box,[],[],World.ownsRow_nil _ _ _ _,rfl,⟨Own.nil _,fun j _ hp=>absurd hp (Nat.not_lt_zero _)⟩,by simp[b5]⟩
  case round=>
   obtain⟨k,v,hk,rfl,hL⟩:=hrel;obtain⟨xs,Ps,f,al,au,ar⟩:=hL.row;obtain⟨G,H,rfl⟩:=mX f;have ae:=hL.near;have aT:=ae.size;have x0:wr.cell? ⟨X,0,Zn⟩=Zo (Zi Zk s):=by simp[World.cell?,hL.box]
   have x1:wr.cell? ⟨X,1,Zn⟩=Zo (Zs u r y):=by simp[World.cell?,hL.box]
   have x2:wr.cell? ⟨X,2,Zn⟩=Zo (Zs G k H):=by simp[World.cell?,hL.box]
   have HL:Hid (lT X n (Kd.kids t) s (Zs u r y) wc k (Zs G k H) wr):=hL;have HX:Hid (wr.ownsRow wc.heap.size 31 3 (Zs G k H) k xs):=f;have U:Hid (Ps.length=k/\pZ (fun b=>wc.heap.size<=b/\b<wr.heap.size/\(Value.slice G k H).ownBlock≠Zo b) wr n (Kd.kids t) xs Ps/\Ps.flatten.length+k=b5 (fun x=>1+qO n x) ((Kd.kids t).take k)):=⟨al,au,ar⟩;clear hL f al au ar;by_cases E:k<(Kd.kids t).length
   ·obtain⟨kb,off,rfl,ak,l⟩:=A (by intro h;rw[h]at E;simp at E);obtain⟨c,e0,hr⟩:=l k E;obtain⟨cb,rfl,-⟩:=id hr.ptr;have aV:=hB kb ak;have z:∀b,S b->wr.heap[b]?=w.heap[b]?:=fun b R=>by have:=hB b R;rw[ae.block b om om];exact C.out.below.block b this
    have f0:wr.cell? ⟨kb,off+k,Zn⟩=Zo (Zp (Zo ⟨cb,0,Zn⟩)):=(World.cell?_of_block (w:=w) (w':=wr) (a:=⟨kb,off+k,Zn⟩) (z kb ak)).trans e0;have HC:Hid (Calls prog 43 #[Zp (Zo ⟨cb,0,Zn⟩)] wr.drew (pV n (Kd.kids t)[k] wr.drew)):=hn S (Kd.kids t)[k] _ (d+1) wr.drew (hr.keep (w':=wr.drew) (fun b R=>z b R) (fun _ h=>h)) (fun b R=>by have:=hB b R;simp;omega) (am.out k E).1 (am.out k E).2;obtain⟨i0,ai,aw,aa,an⟩:=info_parts Tryz.info_kindO;have V:Hid (_/\_/\_/\_):=⟨ai,aw,aa,an⟩;have aL:X<wr.heap.size:=om;clear ai aw aa an A l e0 hr z;go_wp2_with fail;go_region_law (first
     | (refine step_append_lies _ (by rfl) (.tmp 26) (.tmp 29) 29 (by rfl) wc.heap.size 31 i0 _ 3 56 underlying29 V.out.1 V.out.2.1 V.out.2.2.1 V.out.2.2.2 rfl zC (Zs G k H) k xs (by rfl) (aB _) ⟨w2.heap.size,0,Zn⟩ 1 1 [Zi Zk u0,Zs ua ul uc,Zs ya yl yc] (by rfl) rfl (World.news_of_block (heap_alloc_new w2 _)) (by simp[Value.oneCell']) zC (by unfold maxLen;omega) om zE (w2.heap.size+1) zS ?_;intro g cap w3 N q Y aQ;have ad:=((q.block X zE (fun e=>by have:=fR HX.out _ e.symm;omega)).trans (Zh _ _ _ om)).trans M;have ah:w3.cell? ⟨X,2,Zn⟩=Zo (Zs G k H):=(by simp[World.cell?,ad]);have aq:w3.frozen? ⟨X,2,Zn⟩=false:=(by simp[World.frozen?,ad]))
     | (go_simp;go_at_call 43;refine HC.out.mono ?_;rintro e w2 ⟨m,g0,g1,g2,L3,L4,rfl,I,aA,ay,ho,hl⟩;obtain⟨u0,ua,ul,uc,ya,yl,yc,rfl,rfl,rfl⟩:=I.shape;have aP:wr.heap.size<=w2.heap.size:=m.size;have M:=(m.block X (by simpa using aL)).trans HL.out.box;have aB:∀o,(w2.alloc o).ownsRow wc.heap.size 31 3 (Zs G k H) k xs:=(fun o=>(gg HX.out (fun g' aF=>m.block g' (by have:=fR HX.out g' aF;simp;omega))).alloc o);have aj:w2.cell? ⟨X,2,Zn⟩=Zo (Zs G k H):=(by simp[World.cell?,M]);have aN:(w2.alloc (Zc #[Zi Zk u0,Zs ua ul uc,Zs ya yl yc] 31)).cell? ⟨X,2,Zn⟩=Zo (Zs G k H):=(World.cell?_of_block (Zh _ _ _ (by show X<_;omega))).trans aj))
    all_goals
     have HF:Hid (lT X n (Kd.kids t) s (Zs u r y) wc (k+1) (Zs (Zo ⟨g,0,Zn⟩) (k+1) cap) (w3.setCell ⟨X,2,Zn⟩ (Zs (Zo ⟨g,0,Zn⟩) (k+1) cap))):=
      DH (W:=wr.drew) HL.out.near aK HL.out.box E HX.out U.out.1 U.out.2.1 U.out.2.2 rfl ⟨rfl,rfl,rfl⟩ m I aA ay ho hl N q Y
     clear N q Y I m aA ay ho hl aB aj aN ah aq ad M
     go_wp2
     go_roundw
     case rel=>exact⟨k+1,_,om,by go_num,HF.out⟩
     case measure=>simp[intOf];omega
   ·have az:k=(Kd.kids t).length:=by omega
    have Z:wr.heap[w.heap.size]?=Zo (Zc #[Zi Zk 0,Zs Zn 0 0,Zs Zn 0 0] 31 (0,0)):=(ae.block _ om om).trans C.out.zero;obtain⟨⟨r0,r1,r2⟩,f0,f1,f2⟩:=k7 Z;have HP:Hid (pV (n+1) t w (Zr (Za #[Zi Zk s,Zs u r y,Zs G k H])) (ij wr w.heap.size 0 (Zi Zk s) (Zs u r y) (Zs G k H))):=by have h1:=HL.out;rw[az]at h1 ⊢;exact Gh C.out HS.out aE om aM.out om h1
    clear az A HX U HL Z;go_wp2_with fail;refine bodyPost_ret (v:=Za #[Zi Zk s,Zs u r y,Zs G k H]) (by simp[results,results43,go_sem,r0,r1,r2]) rfl ?_;exact HP.out
theorem o9:∀n,s8 n:=by
 intro n;induction n with
 | zero=>intro S t v d w h;exact h.elim
 | succ n a=>exact tW n a
def Aj(R:Nat)(s:ByteArray)(m:Nat)(w:Zw)(e:Ending)(w':Zw):Prop:=
 b7 R w w' /\ ((∃(k:K m)(c0 c1 c2:Zv),gb m s.data.toList=Zo (k,[])/\e=Zr (Za #[c0,c1,c2])/\a8 (fun b=>w.heap.size<=b/\b<w'.heap.size) w' m k c0 c1 c2) ∨
  ((∀k,gb m s.data.toList≠Zo (k,[]))/\e=.panicked k9))
theorem D0 (m:Nat) (R:Nat) (s:ByteArray) (w:Zw) (h:Sc w R s 0) (Y:s.size<=10000) (hm:s.size<m) :
  Calls prog 196 #[Zp (Zo ⟨R,0,Zn⟩)] w (Aj R s m w):=by
 have V:=h.lt;obtain⟨W,x⟩:=iw (w.alloc (Zc #[Zi Zk 0,Zs Zn 0 0,Zs Zn 0 0] 31));have Q:W.heap.size=w.heap.size+1:=by rw[x];simp
 have I:Bw w W:=by rw[x];exact gF _ _
 have T:Hid (W.heap[w.heap.size]?=Zo (Zc #[Zi Zk 0,Zs Zn 0 0,Zs Zn 0 0] 31 (0,0))):=by rw[x];exact heap_alloc_new _ _
 have g:Hid (gG R w W 0):=(gG.refl h).below I V;have F:Hid (Sc w R s 0):=h;have M:Hid (Calls prog 215 #[Zp (Zo ⟨R,0,Zn⟩)] W (lv R s 0 m W)):=Ga m R s 0 W (g.out.sc h) (Nat.zero_le _) Y om;clear h;go_in;go_wp2_with fail;rw[<- x];clear x;refine M.out.mono ?_;rintro e w1 (⟨k,q,c0,c1,c2,u,L,y3,rfl,J,G⟩|⟨u,rfl,L⟩);case inr=>rw[List.drop_zero]at u;exact⟨rfl,g.out.near.trans L,.inr ⟨fun k e=>(by rw[u]at e;cases e),rfl⟩⟩
 rw[List.drop_zero]at u;obtain⟨z0,j,f,d,c,l,i,rfl,rfl,rfl⟩:=J.shape;have S:=G.near.size;have y:Bw w1 (w1.alloc (Zc #[Zi Zk z0,Zs j f d,Zs c l i] 31)):=gF _ _;have n:Hid (gG R W (w1.alloc (Zc #[Zi Zk z0,Zs j f d,Zs c l i] 31)) q):=G.below y om;have p:=jX.new w1 (Zi Zk z0) (Zs j f d) (Zs c l i) 31;have K:Hid (Calls prog 216 #[Zp (Zo ⟨R,0,Zn⟩)] (w1.alloc (Zc #[Zi Zk z0,Zs j f d,Zs c l i] 31)) _):=yx _ R s q ((g.out.trans n.out).sc F.out);have B:Hid (a8 (fun b=>W.heap.size<=b/\b<w1.heap.size) w1 m k (Zi Zk z0) (Zs j f d) (Zs c l i)/\gb m s.data.toList=Zo (k,s.data.toList.drop q)):=⟨J,u⟩;clear M u J G;go_wp2_with fail;refine K.out.mono ?_;rintro e t (⟨H,rfl,v2⟩|⟨H,rfl,v2⟩);case inr=>refine⟨rfl,(g.out.trans n.out).near.trans v2,.inr ⟨fun k' e=>?_,rfl⟩⟩;rw[B.out.2]at e;simp only[Option.some.injEq,Prod.mk.injEq]at e;have:=congrArg List.length e.2;simp at this;omega
 have E:=v2.near.size;simp only[World.size_alloc]at E;have A:∀o,t.cell? ⟨w1.heap.size,o,Zn⟩=(w1.alloc (Zc #[Zi Zk z0,Zs j f d,Zs c l i] 31)).cell? ⟨w1.heap.size,o,Zn⟩:=fun o=>World.cell?_of_block (a:=⟨w1.heap.size,o,Zn⟩) (v2.near.block w1.heap.size zS om);have k0:=(A 0).trans p.c0;have k1:=(A 1).trans p.c1;have k2:=(A 2).trans p.c2;have r:Hid (gG R W t q):=n.out.trans v2;have X:Hid (Aj R s m w (Zr (Za #[Zi Zk z0,Zs j f d,Zs c l i])) (ij t w.heap.size 0 (Zi Zk z0) (Zs j f d) (Zs c l i))):=by
  have O:∀b,b≠w.heap.size->(ij t w.heap.size 0 (Zi Zk z0) (Zs j f d) (Zs c l i)).heap[b]?=t.heap[b]?:=fun b h=>gR h;have N:(ij t w.heap.size 0 (Zi Zk z0) (Zs j f d) (Zs c l i)).heap.size=t.heap.size:=iq;have z:=(g.out.trans r.out).near;refine⟨⟨z.os,z.tape,z.output,by rw[N];exact z.size,fun b C D=>(O b om).trans (z.block b C D)⟩,.inl ⟨k,_,_,_,?_,rfl,?_⟩⟩;·rw[B.out.2,H,List.drop_of_length_le zS]
  ·refine B.out.1.keep (fun b C=>?_) (fun b C=>⟨om,by rw[N];omega⟩);rw[O b om,v2.near.block b zE om,Zh _ _ _ C.2]
 obtain⟨⟨Z,P,U⟩,f0,f1,f2⟩:=jJ ((r.out.near.block w.heap.size om om).trans T.out);clear H v2 K B n r p y A;go_wp2_with fail;refine bodyPost_ret (v:=Za #[Zi Zk z0,Zs j f d,Zs c l i]) (by simp[results,results196,go_sem,Z,P,U]) rfl ?_;exact X.out
theorem pT(s:ByteArray)(w:Zw):Calls prog 195 #[Zt s] w fun e a=>e=Zr (Zp (Zo ⟨w.heap.size,0,Zn⟩))/\a=w.alloc (Zc #[Zt s,Zi Zk 0] 288):=by go_in;go_wp2;go_ret;exact⟨rfl,rfl⟩
theorem Tryz.assert_yes(w:Zw):(Instr.typeAssert (.iface 284 (Za #[])) 20 284 true).run prog w=.ok (Zu #[Za #[],Zb true]) w:=by kernel_rfl
theorem Tryz.assert_nil(w:Zw):(Instr.typeAssert .nilIface 20 284 true).run prog w=.ok (Zu #[Za #[],Zb false]) w:=by kernel_rfl
theorem uA (w:Zw) :
  CallsD prog 214 #[] (.panicking [{ v:=.iface 284 (Za #[]),recovered:=false }]) w fun e d b=>
   e=Zr (Zu #[])/\d=.panicking [{ v:=.iface 284 (Za #[]),recovered:=true }]/\b=w:=by have c:=Tryz.assert_yes;refine callsD_of_wpS func214 rfl fun f cs a=>?_;apply wpS_seq;apply wpS_region;simp[wpOpsS,go_sem,recoverD,a,ntmps214,Exit.thenS];refine wpS_of_wp ?_;go_wp2;exact⟨rfl,_,rfl,Zu #[],by simp[results,results214],rfl,rfl,rfl⟩
theorem ud (w:Zw) :
  CallsD prog 214 #[] .returning w fun e d b=>e=Zr (Zu #[])/\d=.returning/\b=w:=by have c:=Tryz.assert_nil;refine callsD_of_wpS func214 rfl fun f cs a=>?_;apply wpS_seq;apply wpS_region;simp[wpOpsS,go_sem,recoverD,a,ntmps214,Exit.thenS];refine wpS_of_wp ?_;go_wp2;exact⟨rfl,_,by rw[<- a],Zu #[],by simp[results,results214],rfl,rfl,rfl⟩
def nw(R:Nat)(s:ByteArray)(m:Nat)(w:Zw)(e:Ending)(w':Zw):Prop:=
 b7 R w w' /\ ((∃(k:K m)(c0 c1 c2:Zv),gb m s.data.toList=Zo (k,[])/\e=Zr (Zu #[Za #[c0,c1,c2],Zb true])/\a8 (fun b=>w.heap.size<=b/\b<w'.heap.size) w' m k c0 c1 c2) ∨
  ((∀k,gb m s.data.toList≠Zo (k,[]))/\e=Zr (Zu #[Za #[Zi Zk 0,Zs Zn 0 0,Zs Zn 0 0],Zb false])))
theorem An (m:Nat) (R:Nat) (s:ByteArray) (w:Zw) (h:Sc w R s 0) (L:s.size<=10000) (K:s.size<m) :
  Calls prog 194 #[.func (.func 196) #[Zp (Zo ⟨R,0,Zn⟩)] #[]] w (nw R s m w):=by
 have J:=h.lt;obtain⟨W,l⟩:=iw (w.alloc (Zc #[Zi Zk 0,Zs Zn 0 0,Zs Zn 0 0] 31));have G:W.heap.size=w.heap.size+1:=by rw[l];simp
 have y:Bw w W:=by rw[l];exact gF _ _
 have D:Hid (W.heap[w.heap.size]?=Zo (Zc #[Zi Zk 0,Zs Zn 0 0,Zs Zn 0 0] 31 (0,0))):=by rw[l];exact heap_alloc_new _ _
 have c:Hid (gG R w W 0):=(gG.refl h).below y J;have x:Hid (Calls prog 196 #[Zp (Zo ⟨R,0,Zn⟩)] W (Aj R s m W)):=D0 m R s W (c.out.sc h) L K;clear h;go_enter_defers func194,ntmps194;go_wp2_with fail;rw[<- l];clear l;refine x.out.mono ?_;rintro e w1 ⟨d,⟨k,c0,c1,c2,p,rfl,z⟩|⟨p,rfl⟩⟩
 ·obtain⟨z0,o,j,i,g,q,n,rfl,rfl,rfl⟩:=z.shape;have H:=d.size;obtain⟨⟨B,r,v⟩,f0,f1,f2⟩:=jJ ((d.block w.heap.size om om).trans D.out);have A:Hid (nw R s m w (Zr (Zu #[Za #[Zi Zk z0,Zs o j i,Zs g q n],Zb true])) (ij w1 w.heap.size 0 (Zi Zk z0) (Zs o j i) (Zs g q n))):=by have F:∀b,b≠w.heap.size->(ij w1 w.heap.size 0 (Zi Zk z0) (Zs o j i) (Zs g q n)).heap[b]?=w1.heap[b]?:=fun b h=>gR h;have E:(ij w1 w.heap.size 0 (Zi Zk z0) (Zs o j i) (Zs g q n)).heap.size=w1.heap.size:=iq;have a:=c.out.near.trans d;exact⟨⟨a.os,a.tape,a.output,by rw[E];exact a.size,fun b C t=>(F b om).trans (a.block b C t)⟩,.inl ⟨k,_,_,_,p,rfl,z.keep (fun b C=>F b om) (fun b C=>⟨om,by rw[E];omega⟩)⟩⟩
  clear x p z d;go_wp2_with fail;refine leaves_cons (f:=214) (args:=#[]) zS (by simp[go_sem]) ?_;refine (ud _).mono ?_;rintro e I u ⟨rfl,rfl,rfl⟩;exact⟨Zu #[Za #[Zi Zk z0,Zs o j i,Zs g q n],Zb true],by simp[results,results194,go_sem,B,r,v],A.out⟩
 ·obtain⟨⟨B,r,v⟩,f0,f1,f2⟩:=jJ ((d.block w.heap.size om om).trans D.out);have A:Hid (nw R s m w (Zr (Zu #[Za #[Zi Zk 0,Zs Zn 0 0,Zs Zn 0 0],Zb false])) w1):=⟨c.out.near.trans d,.inr ⟨p,rfl⟩⟩;clear x p d;refine leaves_cons (f:=214) (args:=#[]) zS (by simp[go_sem]) ?_;refine (uA _).mono ?_;rintro e I u ⟨rfl,rfl,rfl⟩;exact⟨Zu #[Za #[Zi Zk 0,Zs Zn 0 0,Zs Zn 0 0],Zb false],by simp[results,results194,go_sem,B,r,v],A.out⟩
def gP(m n:Nat)(w:Zw)(R:Nat)(s:ByteArray)(i:Nat)(bad:Bool)(e:Ending)(w':Zw):Prop:=
 b7 R w w' /\ ∃(t:K m)(c0 c1 c2:Zv)(c:Nat)(a:Bool),e=Zr (Za #[c0,c1,c2])/\a8 (fun b=>w.heap.size<=b/\b<w'.heap.size) w' m t c0 c1 c2/\jb w' R s c a/\pA m n s i bad t c a
def kY(n:Nat):Prop:=∀(m R:Nat)(s:ByteArray)(i:Nat)(bad:Bool)(w:Zw),n+1<=m->jb w R s i bad->s.size<=10000->(bad=false->i<=s.size)->i<=20000 ->
 Calls prog 146 #[Zp (Zo ⟨R,0,Zn⟩),Zi Zk (7-(n:Int))] w (gP m n w R s i bad)
theorem lI {f:Nat} {bad a:Bool} {t:K m} {g0 g1 g2:Zv} (c:b7 R w W) (o:R<w.heap.size) (j:jb W R s f a) (l:a8 (fun b=>w.heap.size+1<=b/\b<W.heap.size) W m t g0 g1 g2) (k:pA m n s i bad t f a) :
  gP m n w R s i bad (Zr (Za #[g0,g1,g2])) (ij W w.heap.size 0 g0 g1 g2):=by have q:∀b,b≠w.heap.size->(ij W w.heap.size 0 g0 g1 g2).heap[b]?=W.heap[b]?:=fun b h=>gR h;have g:(ij W w.heap.size 0 g0 g1 g2).heap.size=W.heap.size:=iq;exact⟨⟨c.os,c.tape,c.output,by rw[g];exact c.size,fun b d e=>(q b om).trans (c.block b d e)⟩,t,_,_,_,f,a,rfl,l.keep (fun b d=>q b om) (fun b d=>⟨om,by rw[g];exact d.2⟩),(q R om).trans j,k⟩
def leftRK(w:Zw)(R:Nat)(H:Nat):Nat:=match w.cell? ⟨R,2,Zn⟩ with|Zo (Zb true)=>0|_=>H+1-atOf w R
theorem jb.leftRK(h:jb w R s i b)(H:Nat):leftRK w R H=if b=true then 0 else H+1-i:=by unfold Go.Proofs.YtcfojmaccikgeaaGreatDoor.leftRK;rw[h.cell2,h.atOf];cases b<;>simp
theorem yS{c:UInt8}(h:fT s i=c)(f:c≠0):gA [c] (s.data.toList.drop i)=Zo (s.data.toList.drop (i+1))/\i<s.size:=by
 have a:i<s.size:=Classical.byContradiction fun b=>f (by rw[<- h];exact ow s i om);have d:i<s.data.toList.length:=by simpa using a
 refine⟨?_,a⟩;have e:s.data.toList.drop i=c :: s.data.toList.drop (i+1):=by rw[List.drop_eq_getElem_cons d];congr 1;rw[<- h,s9 s i a];simp[ByteArray.getElem_eq_getElem_data]
 rw[e,gQ]
theorem GD (w:Zw) (R:Nat) (s x:ByteArray) (i:Nat) (bad:Bool) (h:jb w R s i bad) (j:x.size<=100) (hi:s.size<i+x.size) (f:i<=20000) :
  Calls prog 178 #[Zp (Zo ⟨R,0,Zn⟩),Zt x] w fun e a=>e=Zr (Zu #[])/\b7 R w a/\jb a R s i true:=by
 have c0:=h.cell0;have c1:=h.cell1;have c2:=h.cell2;have f2:=h.free 2;have b:∀m,jb ((w.drewN m).setCell ⟨R,2,Zn⟩ (Zb true)) R s i true:=fun m=>(h.drewN m).set2 true;have c:∀m,b7 R w ((w.drewN m).setCell ⟨R,2,Zn⟩ (Zb true)):=fun m=>((b7.refl R w).drewN m).trans (b7.set R 2 _ _);have d:Hid ((∀m,jb _ _ _ _ _)/\(∀m,b7 _ _ _)):=⟨b,c⟩;clear h b c;have g:IntKind.i64.wrap ((i:Int)+(x.size:Int))=(i:Int)+(x.size:Int):=by rw[IntKind.wrap_i64];omega
 have k:decide ((s.size:Int)<(i:Int)+(x.size:Int))=true:=zE;go_in;go_wp2;go_quiet (fail);go_wp2;refine bodyPost_ret (results_none rfl _ _ _) rfl ?_;exact⟨rfl,d.out.2 _,d.out.1 _⟩
theorem zZ {B:Nat} {l:List ByteArray} {o:List (K m)} {p:Zv} (h:jl R X m w wr 5 l o nv p) (n:∀ b,X<b->W.heap[b]?=wr.heap[b]?) (x:wr.heap.size<=W.heap.size) (r:l.length<=20000) (q:o.length<=20000) (y:B<=X) :
  a8 (fun b=>B<=b/\b<W.heap.size) W (m+1) (⟨5,l,o⟩:Kd (K m)) (Zi Zk 5) nv p:=by
 obtain⟨z,c,i⟩:=h.kids;have d:=fR h.names;have e:=fR c;refine⟨rfl,rfl,?_,?_⟩;·refine jt (gg h.names fun g a=>n g (by have:=d g a;omega)) r h.short fun g a=>?_;have:=d g a;exact⟨om,om⟩
 ·refine kt (gg c fun g a=>n g (by have:=e g a;omega)) q (fun g a=>?_) fun j s=>?_;·have:=e g a;exact⟨om,om⟩
  ·obtain⟨c0,c1,c2,t,k⟩:=i j s;refine⟨c0,c1,c2,t,k.keep (fun b f=>n b (by have:=f.1;omega)) (fun b f=>?_)⟩;have v:=f.1;have u:=f.2.1;exact⟨om,om⟩
theorem jl.start:jl R w.heap.size m w (w.alloc (Zc #[Zi Zk 5,Zs Zn 0 0,Zs Zn 0 0] 31)) 5 [] [] (Zs Zn 0 0) (Zs Zn 0 0):=
 ⟨b7.alloc _ _ _,heap_alloc_new _ _,World.ownsRow_nil _ _ _ _,fun _ h=>(by cases h),⟨[],World.ownsRow_nil _ _ _ _,fun j h=>absurd h (Nat.not_lt_zero _)⟩,fun b a=>by cases a⟩
theorem yh(h:W.ownsRow (X+1) e z v k xs)(d:R<X)(a:b7 R W w2)(o:Obj):(w2.alloc o).ownsRow (X+1) e z v k xs:=
 gg h fun g c=>by
  have b:=fR h g c
  have f:=a.size
  rw[Zh _ _ _ om]
  exact a.block g b.2 om
theorem vw {u:Zv} {j:Int} {q:Nat} (a:jb w2 R s j b) (h:W.ownsRow (X+1) e z v k xs) (f:R<X) (d:(w2.alloc o).grownBy w3 v.ownBlock) :
  jb (w3.setCell ⟨X,q,Zn⟩ u) R s j b:=by have c:=a.lt;unfold jb at a ⊢;rw[Below.heap_setCell _ _ _ _ (by show R≠X;omega),d.block R zE (fun e=>by have:=fR h R e.symm;omega),Zh _ _ _ c];exact a
theorem sM(h:W.ownsRow (X+1) e z v k xs)(c:X<W.heap.size)(d:R<X)(a:b7 R W w2)(b:(w2.alloc o).grownBy w3 v.ownBlock):w3.heap[X]?=W.heap[X]?:=by have f:=a.size;rw[b.block X zE (fun e=>by have:=fR h X e.symm;omega),Zh _ _ _ om];exact a.block X c om
end Go.Proofs.YtcfojmaccikgeaaGreatDoor
