import Derived.Test.YtcfojmaccikgeaaGreatDoorB35
import Derived.Test.YtcfojmaccikgeaaGreatDoorB20
import Derived.Test.YtcfojmaccikgeaaGreatDoorB2
import Derived.Test.YtcfojmaccikgeaaGreatDoorB6
import Derived.Deep.RegionHeld
import Derived.Test.YtcfojmaccikgeaaGreatDoorB37
import Derived.Test.YtcfojmaccikgeaaGreatDoorB38
import Derived.Test.YtcfojmaccikgeaaGreatDoorB31
open Go.Value renaming slice→Zs,int→Zi,string→Zt,pointer→Zp,agg→Za
open Go.IntKind renaming i64→Zk
open Option renaming none→Zn,some→Zo
open Go renaming World→Zw,Value→Zv
open Bool renaming and_eq_true→Zq
open List renaming getElem_mem→Zg,mem_cons_self→Zj,mem_cons_of_mem→ZB,all_eq_true→ZC
open Array renaming getElem?_eq_some_iff→ZF
namespace Go.Proofs.YtcfojmaccikgeaaGreatDoor
open Go.RowKit Go.Proofs.Tryz
variable {a a0:Act} {ops:Array Oper} {md:Region.Mode} {n E fuel s i M:Nat} {D:Nat->Tmp} {x v:Zv} {V0 W:Zw} {B:Nat->Prop} {listed:Array Bool} {d:Md} {α:Type}
theorem Gs{b:Act}(c:a.tmps.size=b.tmps.size)(d:a.defers=b.defers)(h:∀k,a.tmps.getD k undef=b.tmps.getD k undef):a=b:=by obtain⟨g,ad⟩:=a;obtain⟨j,l⟩:=b;simp only at c d h;subst d;congr 1;refine Array.ext c fun i f e=>?_;have:=h i;simpa [Array.getD,f,e] using this
theorem zq:∀(L:List (Tmp×Zv))(a0:Act),a.tmps.size=a0.tmps.size->a.defers=a0.defers->(∀p,p∈L->a.tmps.getD p.1 undef=p.2/\p.1<a.tmps.size)->(∀k,(∀p,p∈L->p.1≠k)->a.tmps.getD k undef=a0.tmps.getD k undef)->a=L.foldl (fun x p=>x.put (Zo p.1) p.2) a0
 | [],a0,h1,h2,_,h4=>Gs h1 h2 fun k=>h4 k fun p c=>(by cases c)
 | p :: L,a0,h1,h2,h3,h4=>by
  refine zq L (a0.put (Zo p.1) p.2) (by simpa [Act.put] using h1) h2 (fun q b=>h3 q (ZB _ b)) fun k d=>?_
  show _=(a0.tmps.setIfInBounds p.1 p.2).getD k undef
  by_cases e:p.1=k
  ·subst e
   rw[oC (by rw[<- h1];exact (h3 p (Zj ..)).2)]
   exact (h3 p (Zj ..)).1
  ·rw[lY e]
   exact h4 k fun q b=>by
    rcases List.mem_cons.1 b with rfl|b
    ·exact e
    ·exact d q b
theorem sG(h:(List.range n).all (fun i=>match ops[i]? with|Zo o=>decide (o.dst=Zo (D i)) && o.guard.isNone && o.after.all (fun e=>!(Region.binds md e) || decide (e.on<i))|Zn=>false)=true):∀i,i<n->∃o,ops[i]?=Zo o/\o.dst=Zo (D i)/\o.guard=Zn/\∀e,e∈o.after->Region.binds md e=true->e.on<i:=by
 intro i hi;have:=ZC.1 h i (List.mem_range.2 hi);split at this
 ·next o ho=>
  simp only[Zq,decide_eq_true_eq,Option.isNone_iff_eq_none]at this;exact⟨o,ho,this.1.1,this.1.2,fun e a b=>by
   have:=(Array.all_eq_true_iff_forall_mem.1 this.2) e a
   rw[b]at this
   simpa using this⟩
 ·cases this
theorem qx{l:Nat}(k:ops.size=n+E)(h:(List.range E).all (fun i=>match ops[n+i]? with|Zo o=>(List.range n).all (fun j=>decide (j=l) || o.after.any fun e=>Region.binds md e && decide (e.on=j))|Zn=>true)=true):∀i o,n<=i->ops[i]?=Zo o->∀j,j<n->j≠l->∃e,e∈o.after/\Region.binds md e=true/\e.on=j:=by
 intro i o hi c j g a;have d:i<ops.size:=(ZF.1 c).1;have:=ZC.1 h (i-n) (List.mem_range.2 om);rw[show n+(i-n)=i by omega,c]at this;have:=ZC.1 this j (List.mem_range.2 g);simp only[Bool.or_eq_true,decide_eq_true_eq]at this;rcases this with h|h;·exact absurd h a
 ·obtain⟨q,f,b⟩:=Array.any_eq_true.1 h;simp only[Zq,decide_eq_true_eq]at b;exact⟨o.after[q],Array.getElem_mem f,b.1,b.2⟩
def Gp(n E:Nat)(l:Option Nat)(x:Array Bool):Prop:=x.size=n+E/\(∀j,j<n->x.getD j true = !(decide (l=Zo j)))/\∀j,n<=j->j<n+E->x.getD j true=false
theorem Gp.one{l:Option Nat}{x y:Array Bool}(a:Gp n E l x)(hy:Gp n E l y):x=y:=by
 refine Array.ext (a.1.trans hy.1.symm) fun i c b=>?_;have e:x.getD i true=y.getD i true:=by
  by_cases hi:i<n;·rw[a.2.1 i hi,hy.2.1 i hi]
  ·rw[a.2.2 i om (by have:=a.1;omega),hy.2.2 i om (by have:=a.1;omega)]
 simpa [Array.getD,c,b] using e
section
variable {P:Program} {md:Region.Mode} {ops:Array Oper} {Q:Exit->Act->Zw->Prop} {S:Zw->Prop}
structure Fd(U:List Nat)(V0:Zw)(a0:Act)(D:Nat->Tmp)(a:Act)(B:Nat->Prop)(W:Zw):Prop where
 below:Bw V0 W
 lt:Bd B W
 old:∀b,b<V0.heap.size->B b
 size:a.tmps.size=a0.tmps.size
 defers:a.defers=a0.defers
 fr:∀k,(∀i,i∈U->D i≠k)->a.tmps.getD k undef=a0.tmps.getD k undef
theorem s5{U:List Nat}(d:Fd U V0 a0 D a B W)(L:List (Tmp×Zv))(f:L.map (·.1)=U.map D){z:Nat}(g:a.tmps.size=z)(l:(U.map D).all (fun k=>decide (k<z))=true)(h:∀p,p∈L->a.tmps.getD p.1 undef=p.2):a=L.foldl (fun x p=>x.put (Zo p.1) p.2) a0:=
 zq L a0 d.size d.defers (fun p b=>⟨h p b,by
  have:=ZC.1 l p.1 (by rw[<- f];exact List.mem_map_of_mem b)
  rw[g];simpa using this⟩) fun k j=>d.fr k fun i hi e=>by
  have:D i∈L.map (·.1):=by rw[f];exact List.mem_map_of_mem hi
  obtain⟨p,b,c⟩:=List.mem_map.1 this
  exact j p b (c.trans e)
structure pN(B B':Nat->Prop)(W W':Zw):Prop where
 below:Bw W W'
 on:∀b,B b->B' b
 new:∀b,B' b->B b∨(W.heap.size<=b/\b<W'.heap.size)
theorem Fc (n E l:Nat) (U:List Nat) (LA LB:Array Bool) (V0:Zw) (a0:Act) (J:Nat->Zv->(Nat->Prop)->Zw->Prop) (D:Nat->Tmp) (am:Gp n E Zn LA) (ae:Gp n E (Zo l) LB)
  (M:∀i o,n<=i->ops[i]?=Zo o->∀j,j<n->j≠l->∃e,e∈o.after/\Region.binds md e=true/\e.on=j)
  (G:∀i,i<n->∃o,ops[i]?=Zo o/\o.dst=Zo (D i)/\o.guard=Zn/\∀e,e∈o.after->Region.binds md e=true->e.on<i)
  (hU:∀i,i∈U->i<n) (ab:∀i,i∈U->∀j,j∈U->D i=D j->i=j) (hD:∀i,i∈U->D i<a0.tmps.size)
  (hJ:∀j v B y W t,J j v B W->pN B y W t->J j v y t)
  (hS:∀W,Bw V0 W->S W)
  (L:∀i,i∈U->∀o,ops[i]?=Zo o->∀a B W,Fd U V0 a0 D a B W->(∀e,e∈o.after->Region.binds md e=true->e.on∈U->J e.on (a.tmps.getD (D e.on) undef) B W) ->
   Oper.wp P o a W (fun a' t=>∃v y,a'=a.put o.dst v/\pN B y W t/\J i v y t) Q)
  (hA:∀f a B W,Fd U V0 a0 D a B W->(∀j,j∈U->J j (a.tmps.getD (D j) undef) B W)->wpAnyH P md ops Q S (f+E) LA a W)
  (hB:∀f a B W,Fd U V0 a0 D a B W->(∀j,j∈U->j≠l->J j (a.tmps.getD (D j) undef) B W)->wpAnyH P md ops Q S (f+(E+1)) LB a W) :
  ∀(u d:Nat)(c:Array Bool)(a:Act)(B:Nat->Prop)(W:Zw),jP n c=u->u+E<=d->c.size=n+E->(∀j,n<=j->j<n+E->c.getD j true=false)->(∀j,j<n->j ∉ U->c.getD j true=true)->Fd U V0 a0 D a B W->(∀j,j∈U->c.getD j true=true->J j (a.tmps.getD (D j) undef) B W) ->
   wpAnyH P md ops Q S d c a W:=by
 intro u;induction u using Nat.strongRecOn with
 | _ u ih=>
  intro d c a B W hu hf O R aa p hj;by_cases h0:u=0;·subst h0;have I:=og c n hu;obtain⟨f,rfl⟩:∃f,d=f+E:=⟨d-E,om⟩;rw[Gp.one (x:=c) ⟨O,fun j h=>by rw[I j h];simp,R⟩ am];exact hA f a B W p fun j h=>hj j h (I j (hU j h))
  ·obtain⟨j0,Z,A,ag⟩:=pK c n om;by_cases hl:∀j,j<n->j≠l->c.getD j true=true
   ·have V:j0=l:=Classical.byContradiction fun h=>by rw[hl j0 Z h]at A;cases A
    obtain⟨f,rfl⟩:∃f,d=f+(E+1):=⟨d-(E+1),om⟩;rw[Gp.one (x:=c) ⟨O,fun j h=>by
     by_cases e:j=l
     ·subst e;rw[<- V,A];simp
     ·rw[hl j h e,decide_eq_false (fun h=>e (Option.some.inj h).symm)];rfl,R⟩ ae]
    exact hB f a B W p fun j h e=>hj j h (hl j (hU j h) e)
   ·obtain⟨d,rfl⟩:∃f,d=f+1:=⟨d-1,om⟩;have Y:j0∈Region.ready md ops c:=by obtain⟨o,ho,-,-,ad⟩:=G j0 Z;refine mem_ready.2 ⟨A,o,ho,fun e X hb=>?_⟩;have H:=ad e X hb;have w:=ag e.on H;have C:e.on<c.size:=om;simp[Array.getD,C]at w ⊢;exact w
    refine⟨fun h=>(by rw[h]at Y;cases Y),fun i hi=>?_⟩;obtain⟨H,o,w,h3⟩:=mem_ready.1 hi;have an:i<ops.size:=(ZF.1 w).1;have s:∀j,c.getD j false=true->c.getD j true=true:=fun j h=>by
     by_cases C:j<c.size;·simp[Array.getD,C]at h ⊢;exact h
     ·simp[Array.getD,C]at h
    have m:i<n:=by
     by_cases m:i<n;·exact m
     ·refine absurd (fun j F z=>?_) hl;obtain⟨e,X,K,ai⟩:=M i o om w j F z;rw[<- ai];exact s _ (h3 e X K)
    obtain⟨o',N,g,ak,ad⟩:=G i m;have r:i∈U:=Classical.byContradiction fun h=>by rw[aa i m h]at H;cases H
    rw[N]at w;cases w
    unfold wpOp;simp only[N];rw[if_pos (by simp[Region.wanted,ak])];refine .inl (Oper.wp_mono ?_ (L i r _ N a B W p fun e X K ah=>hj e.on ah (s _ (h3 e X K))));rintro a' t ⟨v,y,rfl,q,af⟩;have ao:=q.below.size;have ac:=p.below.trans (q.below.mono p.below.size);refine⟨hS t ac,ih _ ?_ d _ _ y t rfl ?_ (by simpa using O) ?_ (fun j H w=>?_) ⟨ac,fun b hb=>?_,fun b hb=>q.on b (p.old b hb),?_,?_,?_⟩ ?_⟩;·have:=nt i c H n m;omega
    ·have:=nt i c H n m;omega
    ·intro j aj al;rw[getD_set_ne true om];exact R j aj al
    ·rw[getD_set_ne true (fun e:i=j=>w (by rw[<- e];exact r))];exact aa j H w
    ·rcases q.new b hb with h|h;·have:=p.lt b h;omega
     ·exact h.2
    ·rw[g];simpa [Act.put] using p.size
    ·rw[g];exact p.defers
    ·intro k hk;rw[g];show (a.tmps.setIfInBounds (D i) v).getD k undef=_;rw[lY (fun e=>hk i r e)];exact p.fr k hk
    ·intro j F z;rw[g];show J j ((a.tmps.setIfInBounds (D i) v).getD (D j) undef) y t;by_cases T:i=j;·subst T;rw[oC (by rw[p.size];exact hD i r)];exact af
     ·rw[lY (fun e=>T (ab i r j F e))];rw[getD_set_ne true T]at z;exact hJ j _ B y W t (hj j F z) q
def AO(n E:Nat):Array Bool:=Array.ofFn fun i:Fin (n+E)=>decide (i.1<n)
def xg(n E l:Nat):Array Bool:=Array.ofFn fun i:Fin (n+E)=>decide (i.1<n/\i.1≠l)
theorem B9(n E:Nat):Gp n E Zn (AO n E):=by
 refine⟨by simp[AO],fun j h=>?_,fun j b a=>?_⟩;·simp[AO,Array.getD,show j<n+E by omega,h]
 ·simp[AO,Array.getD,a,show ¬j<n by omega]
theorem rW(n E l:Nat):Gp n E (Zo l) (xg n E l):=by
 refine⟨by simp[xg],fun j h=>?_,fun j b a=>?_⟩
 ·by_cases e:j=l;·subst e;simp[xg,Array.getD,show j<n+E by omega]
  ·simp[xg,Array.getD,show j<n+E by omega,h,e];omega
 ·simp[xg,Array.getD,a,show ¬j<n by omega]
theorem DL (n E l:Nat) (U:List Nat) (J:Nat->Zv->(Nat->Prop)->Zw->Prop) (D:Nat->Tmp)
  (c:∀i o,n<=i->ops[i]?=Zo o->∀j,j<n->j≠l->∃e,e∈o.after/\Region.binds md e=true/\e.on=j)
  (m:∀i,i<n->∃o,ops[i]?=Zo o/\o.dst=Zo (D i)/\o.guard=Zn/\∀e,e∈o.after->Region.binds md e=true->e.on<i)
  (y:U.all (fun i=>decide (i<n) && U.all fun j=>!(D i==D j) || i==j)=true) (z:Nat) (G:a0.tmps.size=z) (K:U.all (fun i=>decide (D i<z))=true)
  (I:∀j v B g W p,J j v B W->pN B g W p->J j v g p) (C:∀W,Bw V0 W->S W)
  (u:listed.size=n+E) (r:(List.range E).all (fun i=>!listed.getD (n+i) true)=true) (w:(List.range n).all (fun j=>U.contains j != listed.getD j true)=true) (A:jP n listed+E<=fuel)
  (d:∀i,i∈U->∀o,ops[i]?=Zo o->∀a B W,Fd U V0 a0 D a B W->(∀e,e∈o.after->Region.binds md e=true->e.on∈U->J e.on (a.tmps.getD (D e.on) undef) B W) ->
   Oper.wp P o a W (fun L p=>∃v g,L=a.put o.dst v/\pN B g W p/\J i v g p) Q)
  (H:∀f a B W,Fd U V0 a0 D a B W->(∀j,j∈U->J j (a.tmps.getD (D j) undef) B W)->wpAnyH P md ops Q S (f+E) (AO n E) a W)
  (F:∀f a B W,Fd U V0 a0 D a B W->(∀j,j∈U->j≠l->J j (a.tmps.getD (D j) undef) B W)->wpAnyH P md ops Q S (f+(E+1)) (xg n E l) a W):wpAnyH P md ops Q S fuel listed a0 V0:=by
 have t:∀i,i∈U->i<n/\∀j,j∈U->D i=D j->i=j:=fun i hi=>by have:=ZC.1 y i hi;simp only[Zq,decide_eq_true_eq]at this;exact⟨this.1,fun j s e=>by have:=ZC.1 this.2 j s;simpa [e] using this⟩
 have x:∀j,j<n->(j∈U↔listed.getD j true=false):=fun j s=>by
  have:=ZC.1 w j (List.mem_range.2 s);by_cases e:j∈U;·simp[e]at this;simp[e,this]
  ·simp[e]at this;simp[e,this]
 refine Fc n E l U _ _ V0 a0 J D (B9 n E) (rW n E l) c m (fun i h=>(t i h).1) (fun i h=>(t i h).2) (fun i h=>by rw[G];simpa using ZC.1 K i h) I C d H F _ fuel listed a0 (fun b=>b<V0.heap.size) V0 rfl A u (fun j q k=>?_) (fun j q k=>?_) ⟨Below.refl _ _,fun _ h=>h,fun _ h=>h,rfl,rfl,fun _ _=>rfl⟩ fun j q k=>?_;·have:=ZC.1 r (j-n) (List.mem_range.2 om);rw[show n+(j-n)=j by omega]at this;simpa using this
 ·cases h:listed.getD j true with
  | true=>rfl
  | false=>exact absurd ((x j q).2 h) k
 ·rw[(x j (t j q).1).1 q]at k;cases k
theorem G8(n E l:Nat)(c:l<n):(xg n E l).setIfInBounds l true=AO n E:=by
 refine Gp.one (l:=Zn) ⟨by simpa using (rW n E l).1,fun j h=>?_,fun j b a=>?_⟩ (B9 n E)
 ·by_cases e:l=j;·subst e;rw[pM];rfl
  ·rw[getD_set_ne true e,(rW n E l).2.1 j h,decide_eq_false (fun h=>e (Option.some.inj h))];rfl
 ·rw[getD_set_ne true om];exact (rW n E l).2.2 j b a
theorem qP (n E l:Nat) (U:List Nat) (J:Nat->Zv->(Nat->Prop)->Zw->Prop) (D:Nat->Tmp)
  (q:∀i o,n<=i->ops[i]?=Zo o->∀j,j<n->j≠l->∃e,e∈o.after/\Region.binds md e=true/\e.on=j)
  (m:∀i,i<n->∃o,ops[i]?=Zo o/\o.dst=Zo (D i)/\o.guard=Zn/\∀e,e∈o.after->Region.binds md e=true->e.on<i)
  (N:U.all (fun i=>decide (i<n) && U.all fun j=>!(D i==D j) || i==j)=true) (z:Nat) (T:a0.tmps.size=z) (Y:U.all (fun i=>decide (D i<z))=true)
  (hJ:∀j v B s W p,J j v B W->pN B s W p->J j v s p) (O:∀W,Bw V0 W->S W)
  (H:listed.size=n+E) (y:(List.range E).all (fun i=>!listed.getD (n+i) true)=true) (I:(List.range n).all (fun j=>U.contains j != listed.getD j true)=true) (Z:jP n listed+E<=fuel)
  (d:U.contains l=true) (C:Region.noSelect ops=true) (M:Region.free md ops (xg n E l) l=true) (K:(Region.ready md ops (xg n E l)).contains l=true)
  (r:∀i,i∈U->∀o,ops[i]?=Zo o->∀a B W,Fd U V0 a0 D a B W->(∀e,e∈o.after->Region.binds md e=true->e.on∈U->J e.on (a.tmps.getD (D e.on) undef) B W) ->
   Oper.wp P o a W (fun a' p=>∃v s,a'=a.put o.dst v/\pN B s W p/\J i v s p) Q)
  (hQ:∀o,ops[l]?=Zo o->∀v c a w,Q (.panic c) (a.put o.dst v) w->Q (.panic c) a w)
  (hL:∀o,ops[l]?=Zo o->∀a B W,Fd U V0 a0 D a B W->(∀j,j∈U->j≠l->J j (a.tmps.getD (D j) undef) B W)->∃v,(∀p,Sem.run P (execOp a.eval o) p=.ok (.value v) p)/\J l v B W)
  (V:∀f a B W,Fd U V0 a0 D a B W->(∀j,j∈U->J j (a.tmps.getD (D j) undef) B W)->wpAnyH P md ops Q S (f+E) (AO n E) a W):wpAnyH P md ops Q S fuel listed a0 V0:=by
 refine DL n E l U J D q m N z T Y hJ O H y I Z r V fun f a B W g R=>?_;have d:l∈U:=by simpa using d
 have u:=ZC.1 N l d;simp only[Zq,decide_eq_true_eq]at u;obtain⟨o,L,b,A,-⟩:=m l u.1;obtain⟨v,hv,F⟩:=hL o L a B W g R;refine wpAnyH_take (fuel:=f+E) L C M K (hQ o L v) (.inl ⟨by simp[Region.wanted,A],fun w' _=>hv w'⟩) (O W g.below) ?_;rw[G8 n E l u.1];have G:D l<a.tmps.size:=by rw[g.size,T];simpa using ZC.1 Y l d
 refine V f _ B W ⟨g.below,g.lt,g.old,by rw[b];simpa [Act.put] using g.size,by rw[b];exact g.defers,fun k X=>?_⟩ fun j t=>?_;·rw[b];show (a.tmps.setIfInBounds (D l) v).getD k undef=_;rw[lY (fun e=>X l d e)];exact g.fr k X
 ·rw[b];show J j ((a.tmps.setIfInBounds (D l) v).getD (D j) undef) B W;by_cases e:j=l;·subst e;rw[oC G];exact F
  ·have x:D l≠D j:=fun h=>by have:=ZC.1 u.2 j t;simp[h]at this;exact e this.symm
   rw[lY x];exact R j t e
end
structure Jx where
 p:Zv->(Nat->Prop)->Zw->Prop
 on:∀ {v B B' W W'},p v B W->pN B B' W W'->p v B' W'
def Jx.any:Jx:=⟨fun _ _ _=>True,fun _ _=>trivial⟩
def Jx.is(x:Zv):Jx:=⟨fun v _ _=>v=x,fun h _=>h⟩
def Jx.box(X:Nat)(z:Obj):Jx:=⟨fun v B W=>∃N,v=Zp (Zo ⟨N,0,Zn⟩)/\X<=N/\W.heap[N]?=Zo z/\¬B N,fun {v B B' W W'} ⟨N,h1,h2,h3,h4⟩ h=>by
 have b:=(ZF.1 h3).1
 exact⟨N,h1,h2,(h.below.block N b).trans h3,fun a=>(h.new N a).elim h4 fun h=>om⟩⟩
theorem pN.lt{d:Nat->Prop}{e:Zw}(c:pN B d W e)(h:Bd B W):∀b,d b->b<e.heap.size:=fun b a=>by
 have:=c.below.size
 rcases c.new b a with a|a
 ·have:=h b a;omega
 ·exact a.2
def iS{N:Nat}(g:Prop)(k:K N)(fc fa:Int)(R:Nat->Prop)(n:Bool):Jx:=⟨fun v B W=>∃c j a d f e i,v=(if n then .tuple #[Za #[Zi Zk c,Zs j a d,Zs f e i],Za #[Zi Zk fc,Zi Zk fa]] else Za #[Zi Zk c,Zs j a d,Zs f e i])/\(g->a8 (fun b=>B b/\R b) W N k (Zi Zk c) (Zs j a d) (Zs f e i))/\Bd B W,
 fun ⟨c,j,a,d,f,e,i,q,p,o⟩ m=>⟨c,j,a,d,f,e,i,q,fun h=>(p h).keep (fun b l=>m.below.block b (o b l.1)) fun b l=>⟨m.on b l.1,l.2⟩,m.lt o⟩⟩
def rj{N:Nat}(l:List (ByteArray×K N))(R:Nat->Prop):Jx:=⟨fun v B W=>gM (fun b=>B b/\R b) W N l v/\Bd B W,fun ⟨e,d⟩ c=>⟨e.keep (fun b a=>c.below.block b (d b a.1)) fun b a=>⟨c.on b a.1,a.2⟩,c.lt d⟩⟩
def yG{m:Nat}(t:T m):Jx:=⟨fun v B W=>∃c0 c1 c2 c3 c4,v=Za #[c0,c1,c2,c3,c4]/\fZ B W m t c0 c1 c2 c3 c4/\Bd B W,fun ⟨c0,c1,c2,c3,c4,e,d,c⟩ a=>⟨c0,c1,c2,c3,c4,e,d.keep (fun b f=>a.below.block b (c b f)) a.on,a.lt c⟩⟩
theorem pN.refl(B:Nat->Prop)(W:Zw):pN B B W W:=⟨Below.refl _ _,fun _ h=>h,fun _ h=>.inl h⟩
def Jp(o:Oper)(a:Act)(B:Nat->Prop)(W:Zw)(J:Jx)(d:Act)(b:Zw):Prop:=∃v c,d=a.put o.dst v/\pN B c W b/\J.p v c b
section
variable {o:Oper} {a:Act} {B:Nat->Prop} {W:Zw} {Q:Exit->Act->Zw->Prop} {J:Jx}
theorem vO(d:o.op=.move (.tmp s))(c:a.tmps.getD s undef=v)(b:J.p v B W):Oper.wp prog o a W (Jp o a B W J) Q:=by
 unfold Oper.wp;have:a.eval (.tmp s)=v:=by simpa [Act.eval] using c
 simp[execOp,d,this];exact⟨v,B,rfl,pN.refl _ _,b⟩
theorem xp(b:o.op=.extract (.tmp s) i)(c:a.tmps.getD s undef=x) (d:∀W,(execOp (fun _=>x) { o with op:=.extract (.tmp 0) i }).run prog W=.ok (.value v) W) (W:Zw):(execOp a.eval o).run prog W=.ok (.value v) W:=by
 have e:a.eval (.tmp s)=x:=by simpa [Act.eval] using c
 rw[<- d W];simp[execOp,b,e]
theorem kO(c:o.op=.extract (.tmp s) i)(d:a.tmps.getD s undef=x) (e:∀W,(execOp (fun _=>x) { o with op:=.extract (.tmp 0) i }).run prog W=.ok (.value v) W) (b:J.p v B W):Oper.wp prog o a W (Jp o a B W J) Q:=by unfold Oper.wp;rw[xp c d e W];exact⟨v,B,rfl,pN.refl _ _,b⟩
theorem mP{T:TypeId}{cs:Array Zv}(b:∀W,(execOp a.eval o).run prog W=.ok (.value (Zp (Zo ⟨W.heap.size,0,Zn⟩))) (W.alloc (.cells cs T))){X:Nat}(d:X<=W.heap.size)(c:Bd B W):Oper.wp prog o a W (Jp o a B W (Jx.box X (.cells cs T (0,0)))) Q:=by unfold Oper.wp;rw[b W];exact⟨_,B,rfl,⟨gF _ _,fun _ h=>h,fun _ h=>.inl h⟩,W.heap.size,rfl,d,heap_alloc_new _ _,fun h=>absurd (c _ h) (Nat.lt_irrefl _)⟩
theorem lJ{f:Nat}{xs:Array Operand}{ts:Array TypeId}{args:Array Zv} (i:o.op=.call { callee:=.value (.func f),args:=xs,argTypes:=ts }) (k:xs.map a.eval=args) (g:(callFunc f args).run prog W=.ok (.enter f args) W) (j:Calls prog f args W fun e c=>∃v,e=.returned v/\Bw W c/\J.p v (fun b=>B b∨(W.heap.size<=b/\b<c.heap.size)) c):Oper.wp prog o a W (Jp o a B W J) Q:=by unfold Oper.wp;have d:(xs.map fun x=>a.eval x)=args:=k;simp[execOp,i,resolve,invoke,Act.eval,d,g,Deferred.ofValue];refine j.mono ?_;rintro e c ⟨v,rfl,m,l⟩;exact⟨v,_,rfl,⟨m,fun _ h=>.inl h,fun _ h=>h⟩,l⟩
end
set_option maxRecDepth 100000
set_option maxHeartbeats 16000000
theorem IH(x y:List UInt8):((bs x).toList==(bs y).toList)=(x==y):=by rw[ByteArray.toList_eq,ByteArray.toList_eq,jv,jv]
theorem rA (M:Nat) (S:Nat->Prop) (a b:K (M+1)) (a0 a1 a2 b0 b1 b2:Zv) (w:Zw) (O:a8 S w (M+1) a a0 a1 a2) (G:a8 S w (M+1) b b0 b1 b2) (N:Bd S w) (oa:gV (M+1) a=true) (ob:gV (M+1) b=true) :
  Calls prog 90 #[Za #[a0,a1,a2],Za #[b0,b1,b2]] w fun e c=>e=.returned (.bool (jA a b))/\Bw w c:=by
 obtain⟨j,m,n,s,k,o,r,rfl,rfl,rfl⟩:=O.shape;obtain⟨A,t,C,y,z,x,u,rfl,rfl,rfl⟩:=G.shape;obtain⟨W,J⟩:=iw ((w.alloc (.cells #[Zi Zk j,Zs m n s,Zs k o r] 31)).alloc (.cells #[Zi Zk A,Zs t C y,Zs z x u] 31));have g:Bw w W:=by rw[J];exact (gF _ _).alloc zS _
 have I:=jX.new w (Zi Zk j) (Zs m n s) (Zs k o r) 31;have i:=I.keep (gF _ (.cells #[Zi Zk A,Zs t C y,Zs z x u] 31));have l:=jX.new (w.alloc (.cells #[Zi Zk j,Zs m n s,Zs k o r] 31)) (Zi Zk A) (Zs t C y) (Zs z x u) 31;rw[<- J]at i l;have B:(w.alloc (.cells #[Zi Zk j,Zs m n s,Zs k o r] 31)).heap.size=w.heap.size+1:=zS;rw[B]at l;have Q:w.heap.size+2<=W.heap.size:=by rw[J];simp
 have D:=ie oa;have E:=ie ob;have Y:Hid (∀V,Bw W V->∀p,Bw V p->Bw W p/\(p.cell? ⟨w.heap.size,0,Zn⟩=Zo (Zi Zk j)/\p.cell? ⟨w.heap.size,1,Zn⟩=Zo (Zs m n s)/\p.cell? ⟨w.heap.size,2,Zn⟩=Zo (Zs k o r)/\p.cell? ⟨w.heap.size+1,0,Zn⟩=Zo (Zi Zk A)/\p.cell? ⟨w.heap.size+1,1,Zn⟩=Zo (Zs t C y)/\p.cell? ⟨w.heap.size+1,2,Zn⟩=Zo (Zs z x u))):=by intro V v p X;have q:=v.trans (X.mono v.size);have P:=i.keep q;have Z:=l.keep q;exact⟨q,P.c0,P.c1,P.c2,Z.c0,Z.c1,Z.c2⟩
 have HA:Hid (∀V,Bw W V->Calls prog 139 #[Za #[Zi Zk j,Zs m n s,Zs k o r]] V fun e c=>e=.returned (Zt (bs (d9 (M+1) a)))/\Bw W c/\(c.cell? ⟨w.heap.size,0,Zn⟩=Zo (Zi Zk j)/\c.cell? ⟨w.heap.size,1,Zn⟩=Zo (Zs m n s)/\c.cell? ⟨w.heap.size,2,Zn⟩=Zo (Zs k o r)/\c.cell? ⟨w.heap.size+1,0,Zn⟩=Zo (Zi Zk A)/\c.cell? ⟨w.heap.size+1,1,Zn⟩=Zo (Zs t C y)/\c.cell? ⟨w.heap.size+1,2,Zn⟩=Zo (Zs z x u))):=by intro V v;have q:=g.trans (v.mono g.size);refine (py (M+1) S a _ _ _ 1 V (O.keep (a6 q N) fun _ h=>h) (fun b G=>Nat.lt_of_lt_of_le (N b G) q.size) D.1 D.2).mono ?_;rintro e c ⟨rfl,F⟩;exact⟨rfl,Y.out V v c F⟩
 have HD:Hid (∀V,Bw W V->Calls prog 139 #[Za #[Zi Zk A,Zs t C y,Zs z x u]] V fun e c=>e=.returned (Zt (bs (d9 (M+1) b)))/\Bw W c/\(c.cell? ⟨w.heap.size,0,Zn⟩=Zo (Zi Zk j)/\c.cell? ⟨w.heap.size,1,Zn⟩=Zo (Zs m n s)/\c.cell? ⟨w.heap.size,2,Zn⟩=Zo (Zs k o r)/\c.cell? ⟨w.heap.size+1,0,Zn⟩=Zo (Zi Zk A)/\c.cell? ⟨w.heap.size+1,1,Zn⟩=Zo (Zs t C y)/\c.cell? ⟨w.heap.size+1,2,Zn⟩=Zo (Zs z x u))):=by intro V v;have q:=g.trans (v.mono g.size);refine (py (M+1) S b _ _ _ 1 V (G.keep (a6 q N) fun _ h=>h) (fun b G=>Nat.lt_of_lt_of_le (N b G) q.size) E.1 E.2).mono ?_;rintro e c ⟨rfl,F⟩;exact⟨rfl,Y.out V v c F⟩
 have L:=a7 g;have ab:Bw W W.drew:=(Below.refl _ _).drew;have HE:Hid (((bs (d9 (M+1) a)).toList==(bs (d9 (M+1) b)).toList)=jA a b):=IH _ _;obtain⟨z0,z1,z2⟩:=i;obtain⟨z3,z4,z5⟩:=l;generalize bs (d9 (M+1) a)=ta at *;generalize bs (d9 (M+1) b)=tb at *;clear O G I B D E g Y oa ob Q;go_in;go_wp2_with fail;rw[<- J];clear J;go_region_held (fun c=>c.cell? ⟨w.heap.size,0,Zn⟩=Zo (Zi Zk j)/\c.cell? ⟨w.heap.size,1,Zn⟩=Zo (Zs m n s)/\c.cell? ⟨w.heap.size,2,Zn⟩=Zo (Zs k o r)/\c.cell? ⟨w.heap.size+1,0,Zn⟩=Zo (Zi Zk A)/\c.cell? ⟨w.heap.size+1,1,Zn⟩=Zo (Zs t C y)/\c.cell? ⟨w.heap.size+1,2,Zn⟩=Zo (Zs z x u)) (first|with_reducible assumption|go_keep) (first
  | (go_at_call 139;with_reducible refine (HA.out _ (by with_reducible assumption)).mono ?_;rintro e w2 ⟨rfl,R,ac⟩)
  | (go_at_call 139;with_reducible refine (HD.out _ (by with_reducible assumption)).mono ?_;rintro e w3 ⟨rfl,T,aa⟩))
 all_goals
  have U:=a7 (L.out.trans (Below.mono (by first|exact T|exact R) L.out.size))
  go_wp2
  go_ret
  exact⟨gd HE.out,U.out⟩
structure xw{M:Nat}(d:Option Md)(names:List ByteArray)(text:ByteArray)(ks:List (K (M+1))):Prop where
 ok:∀x,x∈ks->gV (M+1) x=true
 few:ks.length<=1000
 name:d=Zo .bound∨d=Zo .field∨d=Zo .put∨d=Zo .cut->1<=names.length/\(names.getD 0 ByteArray.empty).size<=8
 said:∀s,d=Zo (.said s)->jK text=true
 wrap:∀s p,d=Zo (.wrap s p)->p<ks.length
 kid:∀p,d=Zo (.kid p)->p<ks.length
 form:d=Zo .field∨d=Zo .put∨d=Zo .cut->1<=ks.length/\Kd.sort (ks.getD 0 zU)=5
 put:d=Zo .put->2<=ks.length
 lst:d=Zo .within->1<=ks.length/\Kd.sort (ks.getD 0 zU)=4
theorem ByteArray.le_max{s:ByteArray}(h:s.size<=8):s.size<=maxLen:=by unfold maxLen;omega
theorem Em {S:Nat->Prop} {w:Zw} {m y:Nat} (hM:5<=M) {t:T (m+1)} {aa:Nat} {env:jS M} {sk:K (M+1)} {j:List (K (M+1))} (hl:mG S w M m y t aa env sk j) (D:Bd S w) {f:Zv} (B:kB S w (Zo d) f) (a:xw (Zo d) (Nd.names t) (Nd.text t) j) :
  F4 f #[Zp (Zo ⟨y,0,Zn⟩)] w (gZ S M (lV (Zo d) (Nd.names t) (Nd.text t) env j).1 (lV (Zo d) (Nd.names t) (Nd.text t) env j).2 w):=by
 have e:∀p,p<j.length->∃g o cap k,w.cell? ⟨y,8,Zn⟩=Zo (Zs (Zo ⟨g,o,Zn⟩) j.length cap)/\(∀q (h:q<j.length),∃c,w.cell? ⟨g,o+q,Zn⟩=Zo c/\uC S w M j[q] c)/\w.cell? ⟨g,o+p,Zn⟩=Zo (Zp (Zo ⟨k,0,Zn⟩))/\d8 S w (M+1) (j.getD p zU) (Zp (Zo ⟨k,0,Zn⟩))/\gV (M+1) (j.getD p zU)=true:=fun p z=>by obtain⟨n,c0,c1,c2,c3,c4,sv,Z,kv,hb,-,-,-,ao,cap,rfl,-,hc⟩:=hl.box;obtain⟨g,o,rfl,-,P⟩:=hc (fun h0=>by rw[h0]at z;simp at z);obtain⟨c,R,H⟩:=P p z;have G:=H.ok (a.ok _ (Zg z));obtain⟨k,rfl,-⟩:=id G.ptr;rw[gr z];exact⟨g,o,cap,k,(iD hb).2.2.2.2.2.2.2.2,P,R,G,a.ok _ (Zg z)⟩
 obtain⟨n,c0,c1,c2,c3,c4,sv,Z,kv,hb,N,V,ac,F⟩:=hl.box;obtain⟨-,-,ab,-,-,-,J,-⟩:=id N;obtain⟨q0,q1,q2,q3,q4,q5,q6,q7,q8⟩:=iD hb;have i:1<=(Nd.names t).length->∃nb no E A,w.cell? ⟨y,3,Zn⟩=Zo (Zs (Zo ⟨nb,no,Zn⟩) (E+1) A)/\w.cell? ⟨nb,no,Zn⟩=Zo (Zt ((Nd.names t).getD 0 ByteArray.empty)):=fun h=>by obtain⟨p,q,cap,rfl,-,Y⟩:=ld J D om;refine⟨p,q,(Nd.names t).length-1,cap,by rw[Nat.sub_add_cancel h];exact q3,?_⟩;rw[gr om];simpa using (Y 0 om).1
 cases d using Md.cs with
 | leaf s=>obtain⟨Q,rfl,R,H,G⟩:=B;exact⟨_,_,rfl,Tryz.call154,fun args b=>by subst b;exact D9 S M _ Q s w H G⟩
 | bound=>
  cases B
  obtain⟨r,l⟩:=a.name (.inl rfl);obtain⟨nb,no,E,A,C,L⟩:=i r;exact⟨_,_,rfl,Tryz.call118,fun args b=>by subst b;exact uE S M n env y sv nb no E A _ w V (ByteArray.le_max l) q6 C L _ rfl⟩
 | said s=>obtain⟨Q,rfl,R,H,G⟩:=B;exact⟨_,_,rfl,Tryz.call156,fun args b=>by subst b;exact CV S M hM _ s y Q w D G (by rw[q2,ab]) H (a.said s rfl)⟩
 | wrap s p=>obtain⟨Q,X,rfl,R,H,G,h4,h5⟩:=B;have z:=a.wrap s p rfl;obtain⟨g,o,cap,k,C,-,e3,U,e5⟩:=e p z;exact⟨_,_,rfl,Tryz.call159,fun args b=>by subst b;exact wF S M _ s y g o j.length cap p k Q X w D h5 G C h4 e3 z a.few U⟩
 | kid p=>obtain⟨X,rfl,R,H⟩:=B;have z:=a.kid p rfl;obtain⟨g,o,cap,k,C,-,e3,U,e5⟩:=e p z;exact⟨_,_,rfl,Tryz.call162,fun args b=>by subst b;exact wO S M _ y g o j.length cap p k X w D C H e3 z a.few U⟩
 | field=>
  cases B
  obtain⟨r,l⟩:=a.name (.inr (.inl rfl));obtain⟨v,u⟩:=a.form (.inl rfl);obtain⟨nb,no,E,A,C,L⟩:=i r;obtain⟨g,o,cap,k,f1,-,f3,f4,O⟩:=e 0 om;exact⟨_,_,rfl,Tryz.call124,fun args b=>by subst b;exact ue S M _ y g o (j.length-1) cap k nb no E A _ w (by rw[Nat.sub_add_cancel v];exact f1) (by simpa using f3) C L (ByteArray.le_max l) f4 O u _ rfl⟩
 | put=>
  cases B
  obtain⟨r,l⟩:=a.name (.inr (.inr (.inl rfl)));obtain⟨v,u⟩:=a.form (.inr (.inl rfl));have W:=a.put rfl;obtain⟨nb,no,E,A,C,L⟩:=i r;obtain⟨g,o,cap,k,f1,fa,f3,f4,O⟩:=e 0 om;obtain⟨c,g1,g2⟩:=fa 1 om;have g3:=g2.ok (a.ok _ (Zg _));obtain⟨xb,rfl,-⟩:=id g3.ptr;have g4:d8 S w (M+1) (j.getD 1 zU) (Zp (Zo ⟨xb,0,Zn⟩)):=by rw[gr om];exact g3
  exact⟨_,_,rfl,Tryz.call125,fun args b=>by subst b;exact zj S M _ _ y g o (j.length-2) cap k xb nb no E A _ w D (by rw[Nat.sub_add_cancel W];exact f1) (by simpa using f3) g1 C L l f4 O u g4⟩
 | cut=>
  cases B
  obtain⟨r,l⟩:=a.name (.inr (.inr (.inr rfl)));obtain⟨v,u⟩:=a.form (.inr (.inr rfl));obtain⟨nb,no,E,A,C,L⟩:=i r;obtain⟨g,o,cap,k,f1,-,f3,f4,O⟩:=e 0 om;exact⟨_,_,rfl,Tryz.call126,fun args b=>by subst b;exact yg S M _ y g o (j.length-1) cap k nb no E A _ w D (by rw[Nat.sub_add_cancel v];exact f1) (by simpa using f3) C L (ByteArray.le_max l) f4 O u _ rfl⟩
 | form=>
  cases B
  obtain⟨na,A,rfl,-⟩:=id J;have I:lx S w (d8 S w (M+1)) j kv:=F.keep (fun _ _=>rfl) (fun _ h=>h) fun x c hx hc=>hc.ok (a.ok x hx);obtain⟨ka,kc,rfl,-⟩:=id F;exact⟨_,_,rfl,Tryz.call127,fun args b=>by subst b;exact xt S M (Nd.names t) j y na ka A kc w D q3 q8 J I⟩
 | within=>
  cases B
  obtain⟨v,u⟩:=a.lst rfl;obtain⟨g,o,cap,k,f1,-,f3,f4,O⟩:=e 0 om;exact⟨_,_,rfl,Tryz.call128,fun args b=>by subst b;exact ss S M _ y g o (j.length-1) cap k w D (by rw[Nat.sub_add_cancel v];exact f1) (by simpa using f3) (by have:=a.few;omega) f4 O u⟩
 | num=>
  cases B
  exact⟨_,_,rfl,Tryz.call129,fun args b=>by subst b;exact vW S M _ w D⟩
theorem B7{l:List ByteArray}(d:∀a,a∈l->gh a=true)(b:uk l):gW l=true:=by
 unfold gW iQ;rw[ZC];intro i hi;have hi:i<l.length:=List.mem_range.1 hi;unfold iU;rw[gr hi,d _ (Zg hi),Bool.true_and,Bool.or_eq_true];by_cases c:i=0;·left;simpa using c
 ·right;rw[gr om];exact List.pairwise_iff_getElem.1 b (i-1) i om hi om
theorem tT{l:List ByteArray}(h:gW l=true):∀a,a∈l->gh a=true:=by intro a b;obtain⟨i,hi,e⟩:=List.getElem_of_mem b;unfold gW iQ at h;rw[ZC]at h;have:=h i (List.mem_range.2 hi);unfold iU at this;rw[gr hi,e,Zq]at this;exact this.1
theorem GB(s:ByteArray)(x:α):∀(c:List ByteArray)(d:List α),c.length=d.length->(iy s x c d).1.length=(iy s x c d).2.length/\(∀a,a∈(iy s x c d).1->a∈c∨a=s)/\(∀y,y∈(iy s x c d).2->y∈d∨y=x)/\(uk c->uk (iy s x c d).1):=by
 intro c;induction c with
 | nil=>
  intro d h;cases d with
  | nil=>exact⟨rfl,fun a h=>.inr (List.mem_singleton.1 h),fun y h=>.inr (List.mem_singleton.1 h),fun _=>List.pairwise_singleton _ _⟩
  | cons k r=>cases h
 | cons n c p=>
  intro d h;cases d with
  | nil=>cases h
  | cons k r=>
   have l:c.length=r.length:=by simpa using h
   obtain⟨m,i2,i3,i4⟩:=p r l;unfold iy;split
   ·next hlt=>
    refine⟨by simp[m],fun a f=>?_,fun y e=>?_,fun i=>?_⟩
    ·rcases List.mem_cons.1 f with rfl|f;·exact .inl (Zj ..)
     ·exact (i2 a f).imp (ZB _) id
    ·rcases List.mem_cons.1 e with rfl|e;·exact .inl (Zj ..)
     ·exact (i3 y e).imp (ZB _) id
    ·obtain⟨o,a2⟩:=List.pairwise_cons.1 i;refine List.pairwise_cons.2 ⟨fun b g=>?_,i4 a2⟩;rcases i2 b g with g|rfl;·exact o b g
     ·exact hlt
   ·next hlt=>
    split
    ·next he=>
     subst he;exact⟨by simpa using l,fun a f=>.inl f,fun y e=>(List.mem_cons.1 e).elim .inr fun h=>.inl (ZB _ h),fun i=>i⟩
    ·next hne=>
     refine⟨by simpa using l,fun a f=>(List.mem_cons.1 f).elim .inr .inl,fun y e=>(List.mem_cons.1 e).elim .inr .inl,fun i=>?_⟩;have j:kJ s n=true:=by
      cases hs:kJ s n with
      | true=>rfl
      | false=>exact absurd (Gv hlt (by rw[hs];simp)) hne
     refine List.pairwise_cons.2 ⟨fun b g=>?_,i⟩;rcases List.mem_cons.1 g with rfl|g;·exact j
     ·exact FY j ((List.pairwise_cons.1 i).1 b g)
theorem Hf(s:ByteArray):∀(c:List ByteArray)(d:List α),c.length=d.length->(iK s c d).1.length=(iK s c d).2.length/\(∀a,a∈(iK s c d).1->a∈c)/\(∀y,y∈(iK s c d).2->y∈d)/\(uk c->uk (iK s c d).1):=by
 intro c;induction c with
 | nil=>
  intro d h;cases d with
  | nil=>exact⟨rfl,fun a h=>h,fun y h=>h,fun h=>h⟩
  | cons k r=>cases h
 | cons n c o=>
  intro d h;cases d with
  | nil=>cases h
  | cons k r=>
   have j:c.length=r.length:=by simpa using h
   obtain⟨i,i2,i3,i4⟩:=o r j;unfold iK;split;·exact⟨i,fun a f=>ZB _ (i2 a f),fun y e=>ZB _ (i3 y e),fun g=>i4 (List.pairwise_cons.1 g).2⟩
   ·refine⟨by simp[i],fun a f=>?_,fun y e=>?_,fun g=>?_⟩
    ·rcases List.mem_cons.1 f with rfl|f;·exact Zj ..
     ·exact ZB _ (i2 a f)
    ·rcases List.mem_cons.1 e with rfl|e;·exact Zj ..
     ·exact ZB _ (i3 y e)
    ·obtain⟨l,a2⟩:=List.pairwise_cons.1 g;exact List.pairwise_cons.2 ⟨fun b m=>l b (i2 b m),i4 a2⟩
theorem pE{k:K n}(h:gV n k=true):gV (n+1) (fQ n n k)=true:=by have a:=pF n k;unfold gV at h ⊢;rw[a.1,a.2.1];exact h
theorem qC{k:K n}(h:gV n k=true):nE n k=true:=CH (ie h).1
theorem tE{names:List ByteArray}{a:List (K n)}(c:names.length=a.length)(b:gW names=true)(d:∀x,x∈a->gV n x=true):nE (n+1) (⟨5,names,a⟩:Kd (K n))=true:=by simp only[nE,Zq,ZC];refine⟨?_,fun x e=>qC (d x e)⟩;show fW 5 names a.length=true;simp[fW,c,b]
theorem wT{k:K n}{s:Int}(a:s=4∨s=6)(h:gV n k=true):nE (n+1) (⟨s,[],[k]⟩:Kd (K n))=true:=by simp only[nE,Zq,ZC];refine⟨?_,fun x b=>by rw[List.mem_singleton.1 b];exact qC h⟩;show fW s [] 1=true;rcases a with rfl|rfl<;>decide
structure Fa{M:Nat}(d:Option Md)(names:List ByteArray)(env:jS M)(ks:List (K (M+1))):Prop where
 leaf:∀s,d=Zo (.leaf s)->s=1∨s=2∨s=3
 said:∀s,d=Zo (.said s)->s=4∨s=6
 wrap:∀s p,d=Zo (.wrap s p)->s=4∨s=6
 env:∀p,p∈env->gV (M+1) p.2=true
 put:d=Zo .put->gh (names.getD 0 ByteArray.empty)=true
 form:d=Zo .form->names.length=ks.length/\gW names=true
theorem Ik{s:ByteArray}{k:K (M+1)}:∀ {env:jS M},(∀p,p∈env->gV (M+1) p.2=true)->iX env s=Zo k->gV (M+1) k=true:=by
 intro env;induction env with
 | nil=>intro _ h;cases h
 | cons p r c=>
  intro h a;obtain⟨x,y⟩:=p;unfold iX at a;split at a;·cases a;exact h (x,k) (Zj ..)
  ·exact c (fun p b=>h p (ZB _ b)) a
theorem xX:∀(b:List ByteArray)(a:List α)(s:ByteArray)(x:α),kU b a s=Zo x->x∈a:=by
 intro b;induction b with
 | nil=>intro a s x h;cases a<;>cases h
 | cons n b c=>
  intro a s x h;cases a with
  | nil=>cases h
  | cons k r=>
   unfold kU at h;split at h;·cases h;exact Zj ..
   ·exact ZB _ (c r s x h)
theorem Iw{k x:K (M+1)}{s:ByteArray}(ok:gV (M+1) k=true)(h:mL k s=Zo x):gV (M+1) x=true:=by unfold mL at h;obtain⟨y,a,rfl⟩:=Option.map_eq_some_iff.1 h;exact pE (pn ok y (xX _ _ _ _ a))
theorem Fg(G:5<=M){names:List ByteArray}{text:ByteArray}{env:jS M}{c:List (K (M+1))}(h:xw (Zo d) names text c)(m:Fa (Zo d) names env c)(i:(lV (Zo d) names text env c).2=0):nE (M+2) (lV (Zo d) names text env c).1=true:=by
 have f:∀p,p<c.length->gV (M+1) (c.getD p zU)=true:=fun p E=>by rw[gr E];exact h.ok _ (Zg E)
 have n:gV (M+1) (c.getD 0 zU)=true->Kd.sort (c.getD 0 zU)=5->∀y,y∈(Kd.kids (c.getD 0 zU)).map (fQ M M)->gV (M+1) y=true:=fun ok _ y j=>by obtain⟨z,F,rfl⟩:=List.mem_map.1 j;exact pE (pn ok z F)
 cases d using Md.cs with
 | leaf s=>have:=m.leaf s rfl;show nE (M+2) (iz s)=true;simp only[nE,Zq,ZC];refine⟨?_,fun x l=>absurd l (by show ¬x∈([]:List _);simp)⟩;show fW s [] 0=true;rcases this with rfl|rfl|rfl<;>decide
 | bound=>
  simp only[lV]at i ⊢;cases he:iX env (names.getD 0 ByteArray.empty) with
  | none=>rw[he]at i;cases i
  | some k=>exact qC (pE (Ik m.env he))
 | said s=>
  have u:=h.said s rfl;obtain⟨k,D⟩:∃k,iO (text.size+8) text=Zo k:=Option.isSome_iff_exists.1 u;obtain⟨-,r,-⟩:=j9 D;have B:pL M text=fQ M (text.size+8) k:=by unfold pL;rw[D]
  exact wT (m.said s rfl) (by rw[B];exact (rR G r).1)
 | wrap s p=>exact wT (m.wrap s p rfl) (f p (h.wrap s p rfl))
 | kid p=>exact qC (pE (f p (h.kid p rfl)))
 | field=>
  simp only[lV]at i ⊢;obtain⟨q,g⟩:=h.form (.inl rfl);cases he:mL (c.getD 0 zU) (names.getD 0 ByteArray.empty) with
  | none=>rw[he]at i;cases i
  | some k=>exact qC (pE (Iw (f 0 om) he))
 | put=>
  obtain⟨q,g⟩:=h.form (.inr (.inl rfl));have b:=f 0 om;obtain⟨f1,f2,f3,f4,w⟩:=mp b g;obtain⟨t,v,C,A⟩:=GB (names.getD 0 ByteArray.empty) (c.getD 1 zU) (Kd.names (c.getD 0 zU)) ((Kd.kids (c.getD 0 zU)).map (fQ M M)) (by rw[List.length_map];exact f1);refine tE t (B7 (fun a o=>?_) (A f4)) fun y j=>?_
  ·rcases v a o with o|rfl;·exact tT w a o
   ·exact m.put rfl
  ·rcases C y j with j|rfl;·exact n b g y j
   ·exact f 1 (by have:=h.put rfl;omega)
 | cut=>
  obtain⟨q,g⟩:=h.form (.inr (.inr rfl));have b:=f 0 om;obtain⟨f1,f2,f3,f4,w⟩:=mp b g;obtain⟨t,v,C,A⟩:=Hf (names.getD 0 ByteArray.empty) (Kd.names (c.getD 0 zU)) ((Kd.kids (c.getD 0 zU)).map (fQ M M)) (by rw[List.length_map];exact f1);simp only[lV]at i ⊢;cases he:mL (c.getD 0 zU) (names.getD 0 ByteArray.empty) with
  | none=>rw[he]at i;cases i
  | some k=>exact tE t (B7 (fun a o=>tT w a (v a o)) (A f4)) fun y j=>n b g y (C y j)
 | form=>obtain⟨q,g⟩:=m.form rfl;exact tE q g h.ok
 | within=>
  obtain⟨q,g⟩:=h.lst rfl;have b:=f 0 om;obtain⟨x,l⟩:=vL b (.inl g);have e:mN (c.getD 0 zU)=fQ M M x:=by unfold mN;rw[l]
  refine qC (pE ?_);rw[e];exact pE (pn b x (by rw[l];simp))
 | num => exact wT (.inr rfl) (by
   unfold gV
   simp only[Zq,decide_eq_true_eq]
   refine⟨pQ om (by show fW 1 [] 0=true;decide) fun x l=>absurd l (by show ¬x∈([]:List _);simp),?_⟩
   show 1+b5 _ []<=40
   simp[b5])
end Go.Proofs.YtcfojmaccikgeaaGreatDoor
