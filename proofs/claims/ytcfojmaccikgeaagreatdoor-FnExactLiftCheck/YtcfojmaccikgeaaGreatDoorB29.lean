import Derived.Test.YtcfojmaccikgeaaGreatDoorB28
open Go.Value renaming slice→Zs,int→Zi,agg→Za
open Go.IntKind renaming i64→Zk
open Option renaming none→Zn,some→Zo
open Go renaming World→Zw,Value→Zv
open List renaming all_eq_true→ZC
open Array renaming getElem?_eq_some_iff→ZF
namespace Go.Proofs.YtcfojmaccikgeaaGreatDoor
open Go.RowKit Go.Proofs.Tryz
variable {a a0:Act} {ops:Array Oper} {md:Region.Mode} {n E fuel s i:Nat} {D:Nat->Tmp} {x v:Zv} {V0 W:Zw} {B:ZP} {listed:Array Bool}
theorem GY{b:Act}(d:a.tmps.size=b.tmps.size)(c:a.defers=b.defers)(h:∀k,a.tmps.getD k undef=b.tmps.getD k undef):a=b:=by obtain⟨e,j⟩:=a;obtain⟨m,l⟩:=b;simp only at d c h;subst c;congr 1;refine Array.ext d fun i f g=>?_;have:=h i;simpa [Array.getD,f,g] using this
theorem xU:∀(L:List (Tmp×Zv))(a0:Act),a.tmps.size=a0.tmps.size->a.defers=a0.defers->(∀p,p∈L->a.tmps.getD p.1 undef=p.2/\p.1<a.tmps.size)->(∀k,(∀p,p∈L->p.1≠k)->a.tmps.getD k undef=a0.tmps.getD k undef)->a=L.foldl (fun x p=>x.put (Zo p.1) p.2) a0
 | [],a0,h1,h2,_,h4=>GY h1 h2 fun k=>h4 k fun p d=>(by cases d)
 | p :: L,a0,h1,h2,h3,h4=>by
  refine xU L (a0.put (Zo p.1) p.2) (by simpa [Act.put] using h1) h2 (fun q b=>h3 q (List.mem_cons_of_mem _ b)) fun k c=>?_
  show _=(a0.tmps.setIfInBounds p.1 p.2).getD k undef
  by_cases e:p.1=k
  ·subst e
   rw[oO (by rw[<- h1];exact (h3 p (List.mem_cons_self ..)).2)]
   exact (h3 p (List.mem_cons_self ..)).1
  ·rw[lZ e]
   exact h4 k fun q b=>by
    rcases List.mem_cons.1 b with rfl|b
    ·exact e
    ·exact c q b
theorem ze(h:(List.range n).all (fun i=>match ops[i]? with|Zo o=>decide (o.dst=Zo (D i)) && o.guard.isNone && o.after.all (fun e=>!(Region.binds md e) || decide (e.on<i))|Zn=>false)=true):∀i,i<n->∃o,ops[i]?=Zo o/\o.dst=Zo (D i)/\o.guard=Zn/\∀e,e∈o.after->Region.binds md e=true->e.on<i:=by
 intro i hi;have:=ZC.1 h i (List.mem_range.2 hi);split at this
 ·next o ho=>
  simp only[Bool.and_eq_true,decide_eq_true_eq,Option.isNone_iff_eq_none]at this;exact⟨o,ho,this.1.1,this.1.2,fun e b a=>by
   have:=(Array.all_eq_true_iff_forall_mem.1 this.2) e b
   rw[a]at this
   simpa using this⟩
 ·cases this
theorem vv{l:Nat}(k:ops.size=n+E)(h:(List.range E).all (fun i=>match ops[n+i]? with|Zo o=>(List.range n).all (fun j=>decide (j=l) || o.after.any fun e=>Region.binds md e && decide (e.on=j))|Zn=>true)=true):∀i o,n<=i->ops[i]?=Zo o->∀j,j<n->j≠l->∃e,e∈o.after/\Region.binds md e=true/\e.on=j:=by
 intro i o hi c j f b;have d:=(ZF.1 c).1;have:=ZC.1 h (i-n) (List.mem_range.2 om);rw[show n+(i-n)=i by omega,c]at this;have:=ZC.1 this j (List.mem_range.2 f);simp only[Bool.or_eq_true,decide_eq_true_eq]at this;rcases this with h|h;·exact absurd h b
 ·obtain⟨q,g,a⟩:=Array.any_eq_true.1 h;simp only[Bool.and_eq_true,decide_eq_true_eq]at a;exact⟨o.after[q],Array.getElem_mem g,a.1,a.2⟩
def GR(n E:Nat)(l:Option Nat)(x:Array Bool):Prop:=x.size=n+E/\(∀j,j<n->x.getD j true = !(decide (l=Zo j)))/\∀j,n<=j->j<n+E->x.getD j true=false
theorem GR.one{l:Option Nat}{x y:Array Bool}(a:GR n E l x)(hy:GR n E l y):x=y:=by
 refine Array.ext (a.1.trans hy.1.symm) fun i b c=>?_;have e:x.getD i true=y.getD i true:=by
  by_cases hi:i<n;·rw[a.2.1 i hi,hy.2.1 i hi]
  ·rw[a.2.2 i om (by have:=a.1;omega),hy.2.2 i om (by have:=a.1;omega)]
 simpa [Array.getD,b,c] using e
section
variable {P:Program} {md:Region.Mode} {ops:Array Oper} {Q:Exit->Act->Zw->Prop} {S:Zw->Prop}
structure EV(U:List Nat)(V0:Zw)(a0:Act)(D:Nat->Tmp)(a:Act)(B:ZP)(W:Zw):Prop where
 below:Bw V0 W
 lt:Bd B W
 old:∀b,b<V0.heap.size->B b
 size:a.tmps.size=a0.tmps.size
 defers:a.defers=a0.defers
 fr:∀k,(∀i,i∈U->D i≠k)->a.tmps.getD k undef=a0.tmps.getD k undef
theorem xT{U:List Nat}(c:EV U V0 a0 D a B W)(L:List (Tmp×Zv))(f:L.map (·.1)=U.map D){z:Nat}(l:a.tmps.size=z)(g:(U.map D).all (fun k=>decide (k<z))=true)(h:∀p,p∈L->a.tmps.getD p.1 undef=p.2):a=L.foldl (fun x p=>x.put (Zo p.1) p.2) a0:=
 xU L a0 c.size c.defers (fun p b=>⟨h p b,by
  have:=ZC.1 g p.1 (by rw[<- f];exact List.mem_map_of_mem b)
  rw[l];simpa using this⟩) fun k j=>c.fr k fun i hi e=>by
  have:D i∈L.map (·.1):=by rw[f];exact List.mem_map_of_mem hi
  obtain⟨p,b,d⟩:=List.mem_map.1 this
  exact j p b (d.trans e)
structure pL(B B':ZP)(W W':Zw):Prop where
 below:Bw W W'
 on:∀b,B b->B' b
 new:∀b,B' b->B b∨(W.heap.size<=b/\b<W'.heap.size)
theorem Fg (n E l:Nat) (U:List Nat) (LA LB:Array Bool) (V:Zw) (a0:Act) (J:Nat->Zv->(ZP)->Zw->Prop) (D:Nat->Tmp) (ag:GR n E Zn LA) (ah:GR n E (Zo l) LB)
  (L:∀i o,n<=i->ops[i]?=Zo o->∀j,j<n->j≠l->∃e,e∈o.after/\Region.binds md e=true/\e.on=j)
  (I:∀i,i<n->∃o,ops[i]?=Zo o/\o.dst=Zo (D i)/\o.guard=Zn/\∀e,e∈o.after->Region.binds md e=true->e.on<i)
  (hU:∀i,i∈U->i<n) (aa:∀i,i∈U->∀j,j∈U->D i=D j->i=j) (hD:∀i,i∈U->D i<a0.tmps.size)
  (hJ:∀j v B y W t,J j v B W->pL B y W t->J j v y t)
  (hS:∀W,Bw V W->S W)
  (T:∀i,i∈U->∀o,ops[i]?=Zo o->∀a B W,EV U V a0 D a B W->(∀e,e∈o.after->Region.binds md e=true->e.on∈U->J e.on (a.tmps.getD (D e.on) undef) B W) ->
   Oper.wp P o a W (fun a' t=>∃v y,a'=a.put o.dst v/\pL B y W t/\J i v y t) Q)
  (hA:∀f a B W,EV U V a0 D a B W->(∀j,j∈U->J j (a.tmps.getD (D j) undef) B W)->wpAnyH P md ops Q S (f+E) LA a W)
  (hB:∀f a B W,EV U V a0 D a B W->(∀j,j∈U->j≠l->J j (a.tmps.getD (D j) undef) B W)->wpAnyH P md ops Q S (f+(E+1)) LB a W) :
  ∀(u d:Nat)(c:Array Bool)(a:Act)(B:ZP)(W:Zw),jZ n c=u->u+E<=d->c.size=n+E->(∀j,n<=j->j<n+E->c.getD j true=false)->(∀j,j<n->j ∉ U->c.getD j true=true)->EV U V a0 D a B W->(∀j,j∈U->c.getD j true=true->J j (a.tmps.getD (D j) undef) B W) ->
   wpAnyH P md ops Q S d c a W:=by
 intro u;induction u using Nat.strongRecOn with
 | _ u ih=>
  intro d c a B W hu hf O N ad r hj;by_cases h0:u=0;·subst h0;have H:=oC c n hu;obtain⟨f,rfl⟩:∃f,d=f+E:=⟨d-E,om⟩;rw[GR.one (x:=c) ⟨O,fun j h=>by rw[H j h];simp,N⟩ ag];exact hA f a B W r fun j h=>hj j h (H j (hU j h))
  ·obtain⟨j0,ab,z,al⟩:=qm c n om;by_cases hl:∀j,j<n->j≠l->c.getD j true=true
   ·have ac:j0=l:=Classical.byContradiction fun h=>by rw[hl j0 ab h]at z;cases z
    obtain⟨f,rfl⟩:∃f,d=f+(E+1):=⟨d-(E+1),om⟩;rw[GR.one (x:=c) ⟨O,fun j h=>by
     by_cases e:j=l
     ·subst e;rw[<- ac,z];simp
     ·rw[hl j h e,decide_eq_false (fun h=>e (Option.some.inj h).symm)];rfl,N⟩ ah]
    exact hB f a B W r fun j h e=>hj j h (hl j (hU j h) e)
   ·obtain⟨d,rfl⟩:∃f,d=f+1:=⟨d-1,om⟩;have ae:j0∈Region.ready md ops c:=by obtain⟨o,ho,-,-,X⟩:=I j0 ab;refine mem_ready.2 ⟨z,o,ho,fun e he Y=>?_⟩;have G:=X e he Y;have w:=al e.on G;have F:e.on<c.size:=om;simp[Array.getD,F]at w ⊢;exact w
    refine⟨fun h=>(by rw[h]at ae;cases ae),fun i hi=>?_⟩;obtain⟨G,o,w,h3⟩:=mem_ready.1 hi;have ao:=(ZF.1 w).1;have q:∀j,c.getD j false=true->c.getD j true=true:=fun j h=>by
     by_cases F:j<c.size;·simp[Array.getD,F]at h ⊢;exact h
     ·simp[Array.getD,F]at h
    have m:i<n:=by
     by_cases m:i<n;·exact m
     ·refine absurd (fun j C A=>?_) hl;obtain⟨e,he,K,aj⟩:=L i o om w j C A;rw[<- aj];exact q _ (h3 e he K)
    obtain⟨o',R,g,ak,X⟩:=I i m;have p:=Classical.byContradiction fun h=>by rw[ad i m h]at G;cases G
    rw[R]at w;cases w
    unfold wpOp;simp only[R];rw[if_pos (by simp[Region.wanted,ak])];refine .inl (Oper.wp_mono ?_ (T i p _ R a B W r fun e he K ai=>hj e.on ai (q _ (h3 e he K))));rintro a' t ⟨v,y,rfl,s,af⟩;have ap:=s.below.size;have Z:=r.below.trans (s.below.mono r.below.size);refine⟨hS t Z,ih _ ?_ d _ _ y t rfl ?_ (by simpa using O) ?_ (fun j G w=>?_) ⟨Z,fun b Y=>?_,fun b Y=>s.on b (r.old b Y),?_,?_,?_⟩ ?_⟩;·have:=nD i c G n m;omega
    ·have:=nD i c G n m;omega
    ·intro j an am;rw[getD_set_ne true om];exact N j an am
    ·rw[getD_set_ne true (fun e:i=j=>w (by rw[<- e];exact p))];exact ad j G w
    ·rcases s.new b Y with h|h;·have:=r.lt b h;omega
     ·exact h.2
    ·rw[g];simpa [Act.put] using r.size
    ·rw[g];exact r.defers
    ·intro k hk;rw[g];show (a.tmps.setIfInBounds (D i) v).getD k undef=_;rw[lZ (fun e=>hk i p e)];exact r.fr k hk
    ·intro j C A;rw[g];show J j ((a.tmps.setIfInBounds (D i) v).getD (D j) undef) y t;by_cases M:i=j;·subst M;rw[oO (by rw[r.size];exact hD i p)];exact af
     ·rw[lZ (fun e=>M (aa i p j C e))];rw[getD_set_ne true M]at A;exact hJ j _ B y W t (hj j C A) s
def yW(n E:Nat):Array Bool:=Array.ofFn fun i:Fin (n+E)=>decide (i.1<n)
def uT(n E l:Nat):Array Bool:=Array.ofFn fun i:Fin (n+E)=>decide (i.1<n/\i.1≠l)
theorem B7(n E:Nat):GR n E Zn (yW n E):=by
 refine⟨by simp[yW],fun j h=>?_,fun j b a=>?_⟩;·simp[yW,Array.getD,show j<n+E by omega,h]
 ·simp[yW,Array.getD,a,show ¬j<n by omega]
theorem sw(n E l:Nat):GR n E (Zo l) (uT n E l):=by
 refine⟨by simp[uT],fun j h=>?_,fun j b a=>?_⟩
 ·by_cases e:j=l;·subst e;simp[uT,Array.getD,show j<n+E by omega]
  ·simp[uT,Array.getD,show j<n+E by omega,h,e];omega
 ·simp[uT,Array.getD,a,show ¬j<n by omega]
theorem vq (n E l:Nat) (U:List Nat) (J:Nat->Zv->(ZP)->Zw->Prop) (D:Nat->Tmp)
  (c:∀i o,n<=i->ops[i]?=Zo o->∀j,j<n->j≠l->∃e,e∈o.after/\Region.binds md e=true/\e.on=j)
  (q:∀i,i<n->∃o,ops[i]?=Zo o/\o.dst=Zo (D i)/\o.guard=Zn/\∀e,e∈o.after->Region.binds md e=true->e.on<i)
  (I:U.all (fun i=>decide (i<n) && U.all fun j=>!(D i==D j) || i==j)=true) (z:Nat) (L:a0.tmps.size=z) (F:U.all (fun i=>decide (D i<z))=true)
  (G:∀j v B g W k,J j v B W->pL B g W k->J j v g k) (H:∀W,Bw V0 W->S W)
  (w:listed.size=n+E) (t:(List.range E).all (fun i=>!listed.getD (n+i) true)=true) (u:(List.range n).all (fun j=>U.contains j != listed.getD j true)=true) (K:jZ n listed+E<=fuel)
  (d:∀i,i∈U->∀o,ops[i]?=Zo o->∀a B W,EV U V0 a0 D a B W->(∀e,e∈o.after->Region.binds md e=true->e.on∈U->J e.on (a.tmps.getD (D e.on) undef) B W) ->
   Oper.wp P o a W (fun y k=>∃v g,y=a.put o.dst v/\pL B g W k/\J i v g k) Q)
  (A:∀f a B W,EV U V0 a0 D a B W->(∀j,j∈U->J j (a.tmps.getD (D j) undef) B W)->wpAnyH P md ops Q S (f+E) (yW n E) a W)
  (C:∀f a B W,EV U V0 a0 D a B W->(∀j,j∈U->j≠l->J j (a.tmps.getD (D j) undef) B W)->wpAnyH P md ops Q S (f+(E+1)) (uT n E l) a W):wpAnyH P md ops Q S fuel listed a0 V0:=by
 have r:∀i,i∈U->i<n/\∀j,j∈U->D i=D j->i=j:=fun i hi=>by have:=ZC.1 I i hi;simp only[Bool.and_eq_true,decide_eq_true_eq]at this;exact⟨this.1,fun j s e=>by have:=ZC.1 this.2 j s;simpa [e] using this⟩
 have x:∀j,j<n->(j∈U↔listed.getD j true=false):=fun j s=>by
  have:=ZC.1 u j (List.mem_range.2 s);by_cases e:j∈U;·simp[e]at this;simp[e,this]
  ·simp[e]at this;simp[e,this]
 refine Fg n E l U _ _ V0 a0 J D (B7 n E) (sw n E l) c q (fun i h=>(r i h).1) (fun i h=>(r i h).2) (fun i h=>by rw[L];simpa using ZC.1 F i h) G H d A C _ fuel listed a0 (fun b=>b<V0.heap.size) V0 rfl K w (fun j m p=>?_) (fun j m p=>?_) ⟨Below.refl _ _,fun _ h=>h,fun _ h=>h,rfl,rfl,fun _ _=>rfl⟩ fun j m p=>?_;·have:=ZC.1 t (j-n) (List.mem_range.2 om);rw[show n+(j-n)=j by omega]at this;simpa using this
 ·cases h:listed.getD j true with
  | true=>rfl
  | false=>exact absurd ((x j m).2 h) p
 ·rw[(x j (r j m).1).1 m]at p;cases p
theorem H1(n E l:Nat)(c:l<n):(uT n E l).setIfInBounds l true=yW n E:=by
 refine GR.one (l:=Zn) ⟨by simpa using (sw n E l).1,fun j h=>?_,fun j a b=>?_⟩ (B7 n E)
 ·by_cases e:l=j;·subst e;rw[qe];rfl
  ·rw[getD_set_ne true e,(sw n E l).2.1 j h,decide_eq_false (fun h=>e (Option.some.inj h))];rfl
 ·rw[getD_set_ne true om];exact (sw n E l).2.2 j a b
theorem CJ (n E l:Nat) (U:List Nat) (J:Nat->Zv->(ZP)->Zw->Prop) (D:Nat->Tmp)
  (q:∀i o,n<=i->ops[i]?=Zo o->∀j,j<n->j≠l->∃e,e∈o.after/\Region.binds md e=true/\e.on=j)
  (p:∀i,i<n->∃o,ops[i]?=Zo o/\o.dst=Zo (D i)/\o.guard=Zn/\∀e,e∈o.after->Region.binds md e=true->e.on<i)
  (T:U.all (fun i=>decide (i<n) && U.all fun j=>!(D i==D j) || i==j)=true) (z:Nat) (Y:a0.tmps.size=z) (O:U.all (fun i=>decide (D i<z))=true)
  (hJ:∀j v B s W m,J j v B W->pL B s W m->J j v s m) (R:∀W,Bw V0 W->S W)
  (H:listed.size=n+E) (F:(List.range E).all (fun i=>!listed.getD (n+i) true)=true) (G:(List.range n).all (fun j=>U.contains j != listed.getD j true)=true) (hf:jZ n listed+E<=fuel)
  (d:U.contains l=true) (K:Region.noSelect ops=true) (A:Region.free md ops (uT n E l) l=true) (M:(Region.ready md ops (uT n E l)).contains l=true)
  (r:∀i,i∈U->∀o,ops[i]?=Zo o->∀a B W,EV U V0 a0 D a B W->(∀e,e∈o.after->Region.binds md e=true->e.on∈U->J e.on (a.tmps.getD (D e.on) undef) B W) ->
   Oper.wp P o a W (fun Z m=>∃v s,Z=a.put o.dst v/\pL B s W m/\J i v s m) Q)
  (hQ:∀o,ops[l]?=Zo o->∀v c a w,Q (.panic c) (a.put o.dst v) w->Q (.panic c) a w)
  (hL:∀o,ops[l]?=Zo o->∀a B W,EV U V0 a0 D a B W->(∀j,j∈U->j≠l->J j (a.tmps.getD (D j) undef) B W)->∃v,(∀m,Sem.run P (execOp a.eval o) m=.ok (.value v) m)/\J l v B W)
  (N:∀f a B W,EV U V0 a0 D a B W->(∀j,j∈U->J j (a.tmps.getD (D j) undef) B W)->wpAnyH P md ops Q S (f+E) (yW n E) a W):wpAnyH P md ops Q S fuel listed a0 V0:=by
 refine vq n E l U J D q p T z Y O hJ R H F G hf r N fun f a B W g V=>?_;have d:l∈U:=by simpa using d
 have u:=ZC.1 T l d;simp only[Bool.and_eq_true,decide_eq_true_eq]at u;obtain⟨o,L,b,C,-⟩:=p l u.1;obtain⟨v,hv,y⟩:=hL o L a B W g V;refine wpAnyH_take (fuel:=f+E) L K A M (hQ o L v) (.inl ⟨by simp[Region.wanted,C],fun w' _=>hv w'⟩) (R W g.below) ?_;rw[H1 n E l u.1];have x:D l<a.tmps.size:=by rw[g.size,Y];simpa using ZC.1 O l d
 refine N f _ B W ⟨g.below,g.lt,g.old,by rw[b];simpa [Act.put] using g.size,by rw[b];exact g.defers,fun k X=>?_⟩ fun j t=>?_;·rw[b];show (a.tmps.setIfInBounds (D l) v).getD k undef=_;rw[lZ (fun e=>X l d e)];exact g.fr k X
 ·rw[b];show J j ((a.tmps.setIfInBounds (D l) v).getD (D j) undef) B W;by_cases e:j=l;·subst e;rw[oO x];exact y
  ·have I:D l≠D j:=fun h=>by have:=ZC.1 u.2 j t;simp[h]at this;exact e this.symm
   rw[lZ I];exact V j t e
end
structure Jx where
 p:Zv->(ZP)->Zw->Prop
 on:∀ {v B B' W W'},p v B W->pL B B' W W'->p v B' W'
def Jx.any:Jx:=⟨fun _ _ _=>True,fun _ _=>trivial⟩
def Jx.is(x:Zv):Jx:=⟨fun v _ _=>v=x,fun h _=>h⟩
def Jx.box(X:Nat)(z:Obj):Jx:=⟨fun v B W=>∃N,v=.pointer (Zo ⟨N,0,Zn⟩)/\X<=N/\W.heap[N]?=Zo z/\¬B N,fun {v B B' W W'} ⟨N,h1,h2,h3,h4⟩ h=>by
 have b:=(ZF.1 h3).1
 exact⟨N,h1,h2,(h.below.block N b).trans h3,fun a=>(h.new N a).elim h4 fun h=>om⟩⟩
theorem pL.lt{c:ZP}{d:Zw}(e:pL B c W d)(h:Bd B W):∀b,c b->b<d.heap.size:=fun b a=>by
 have:=e.below.size
 rcases e.new b a with a|a
 ·have:=h b a;omega
 ·exact a.2
def nW{N:Nat}(g:Prop)(k:K N)(q p:Int)(R:ZP)(n:Bool):Jx:=⟨fun v B W=>∃a c e d f j i,v=(if n then .tuple #[Za #[Zi Zk a,Zs c e d,Zs f j i],Za #[Zi Zk q,Zi Zk p]] else Za #[Zi Zk a,Zs c e d,Zs f j i])/\(g->a8 (fun b=>B b/\R b) W N k (Zi Zk a) (Zs c e d) (Zs f j i))/\Bd B W,
 fun ⟨a,c,e,d,f,j,i,r,s,o⟩ m=>⟨a,c,e,d,f,j,i,r,fun h=>(s h).keep (fun b l=>m.below.block b (o b l.1)) fun b l=>⟨m.on b l.1,l.2⟩,m.lt o⟩⟩
def FW{N:Nat}(l:List (ZN×K N))(R:ZP):Jx:=⟨fun v B W=>jf (fun b=>B b/\R b) W N l v/\Bd B W,fun ⟨e,d⟩ c=>⟨e.keep (fun b a=>c.below.block b (d b a.1)) fun b a=>⟨c.on b a.1,a.2⟩,c.lt d⟩⟩
def FV{m:Nat}(t:T m):Jx:=⟨fun v B W=>∃c0 c1 c2 c3 c4,v=Za #[c0,c1,c2,c3,c4]/\fT B W m t c0 c1 c2 c3 c4/\Bd B W,fun ⟨c0,c1,c2,c3,c4,d,e,c⟩ a=>⟨c0,c1,c2,c3,c4,d,e.keep (fun b f=>a.below.block b (c b f)) a.on,a.lt c⟩⟩
theorem pL.refl(B:ZP)(W:Zw):pL B B W W:=⟨Below.refl _ _,fun _ h=>h,fun _ h=>.inl h⟩
def J0(o:Oper)(a:Act)(B:ZP)(W:Zw)(J:Jx)(d:Act)(c:Zw):Prop:=∃v b,d=a.put o.dst v/\pL B b W c/\J.p v b c
section
variable {o:Oper} {a:Act} {B:ZP} {W:Zw} {Q:Exit->Act->Zw->Prop} {J:Jx}
theorem H3(c:o.op=.move (.tmp s))(d:a.tmps.getD s undef=v)(b:J.p v B W):Oper.wp prog o a W (J0 o a B W J) Q:=by
 unfold Oper.wp;have:a.eval (.tmp s)=v:=by simpa [Act.eval] using d
 simp[execOp,c,this];exact⟨v,B,rfl,pL.refl _ _,b⟩
theorem FA(b:o.op=.extract (.tmp s) i)(c:a.tmps.getD s undef=x) (d:∀W,(execOp (fun _=>x) { o with op:=.extract (.tmp 0) i }).run prog W=.ok (.value v) W) (W:Zw):(execOp a.eval o).run prog W=.ok (.value v) W:=by
 have e:a.eval (.tmp s)=x:=by simpa [Act.eval] using c
 rw[<- d W];simp[execOp,b,e]
theorem tF(c:o.op=.extract (.tmp s) i)(d:a.tmps.getD s undef=x) (e:∀W,(execOp (fun _=>x) { o with op:=.extract (.tmp 0) i }).run prog W=.ok (.value v) W) (b:J.p v B W):Oper.wp prog o a W (J0 o a B W J) Q:=by unfold Oper.wp;rw[FA c d e W];exact⟨v,B,rfl,pL.refl _ _,b⟩
theorem tE{T:TypeId}{cs:Array Zv}(d:∀W,(execOp a.eval o).run prog W=.ok (.value (.pointer (Zo ⟨W.heap.size,0,Zn⟩))) (W.alloc (.cells cs T))){X:Nat}(c:X<=W.heap.size)(b:Bd B W):Oper.wp prog o a W (J0 o a B W (Jx.box X (.cells cs T (0,0)))) Q:=by unfold Oper.wp;rw[d W];exact⟨_,B,rfl,⟨gx _ _,fun _ h=>h,fun _ h=>.inl h⟩,W.heap.size,rfl,c,heap_alloc_new _ _,fun h=>absurd (b _ h) (Nat.lt_irrefl _)⟩
theorem nh{f:Nat}{xs:Array Operand}{ts:Array TypeId}{args:Array Zv} (l:o.op=.call { callee:=.value (.func f),args:=xs,argTypes:=ts }) (m:xs.map a.eval=args) (k:(callFunc f args).run prog W=.ok (.enter f args) W) (j:Calls prog f args W fun e c=>∃v,e=.returned v/\Bw W c/\J.p v (fun b=>B b∨(W.heap.size<=b/\b<c.heap.size)) c):Oper.wp prog o a W (J0 o a B W J) Q:=by unfold Oper.wp;have d:=m;simp[execOp,l,resolve,invoke,Act.eval,d,k,Deferred.ofValue];refine j.mono ?_;rintro e c ⟨v,rfl,i,g⟩;exact⟨v,_,rfl,⟨i,fun _ h=>.inl h,fun _ h=>h⟩,g⟩
end
set_option maxRecDepth 100000
set_option maxHeartbeats 16000000
theorem IX(x y:List UInt8):((bs x).toList==(bs y).toList)=(x==y):=by rw[ByteArray.toList_eq,ByteArray.toList_eq,jy,jy]
theorem nY (M:Nat) (S:ZP) (a b:K (M+1)) (a0 X a2 Y b1 Z:Zv) (w:Zw) (O:a8 S w (M+1) a a0 X a2) (B:a8 S w (M+1) b Y b1 Z) (I:Bd S w) (oa:gF (M+1) a=true) (ob:gF (M+1) b=true) :
  Calls prog 90 #[Za #[a0,X,a2],Za #[Y,b1,Z]] w fun e c=>e=.returned (.bool (ji a b))/\Bw w c:=by
 obtain⟨k,l,n,m,o,q,p,rfl,rfl,rfl⟩:=O.shape;obtain⟨t,u,x,v,y,A,z,rfl,rfl,rfl⟩:=B.shape;obtain⟨W,G⟩:=ii ((w.alloc (.cells #[Zi Zk k,Zs l n m,Zs o q p] 31)).alloc (.cells #[Zi Zk t,Zs u x v,Zs y A z] 31));have d:Bw w W:=by rw[G];exact (gx _ _).alloc zS _
 have H:=j8.new w (Zi Zk k) (Zs l n m) (Zs o q p) 31;have f:=H.keep (gx _ (.cells #[Zi Zk t,Zs u x v,Zs y A z] 31));have j:=j8.new (w.alloc (.cells #[Zi Zk k,Zs l n m,Zs o q p] 31)) (Zi Zk t) (Zs u x v) (Zs y A z) 31;rw[<- G]at f j;have s:(w.alloc (.cells #[Zi Zk k,Zs l n m,Zs o q p] 31)).heap.size=w.heap.size+1:=zS;rw[s]at j;have R:w.heap.size+2<=W.heap.size:=by rw[G];simp
 have D:=iw oa;have E:=iw ob;have L:Hid (∀V,Bw W V->∀g,Bw V g->Bw W g/\(g.cell? ⟨w.heap.size,0,Zn⟩=Zo (Zi Zk k)/\g.cell? ⟨w.heap.size,1,Zn⟩=Zo (Zs l n m)/\g.cell? ⟨w.heap.size,2,Zn⟩=Zo (Zs o q p)/\g.cell? ⟨w.heap.size+1,0,Zn⟩=Zo (Zi Zk t)/\g.cell? ⟨w.heap.size+1,1,Zn⟩=Zo (Zs u x v)/\g.cell? ⟨w.heap.size+1,2,Zn⟩=Zo (Zs y A z))):=by intro V r g N;have i:=r.trans (N.mono r.size);have T:=f.keep i;have U:=j.keep i;exact⟨i,T.c0,T.c1,T.c2,U.c0,U.c1,U.c2⟩
 have HA:Hid (∀V,Bw W V->Calls prog 139 #[Za #[Zi Zk k,Zs l n m,Zs o q p]] V fun e c=>e=.returned (.string (bs (fI (M+1) a)))/\Bw W c/\(c.cell? ⟨w.heap.size,0,Zn⟩=Zo (Zi Zk k)/\c.cell? ⟨w.heap.size,1,Zn⟩=Zo (Zs l n m)/\c.cell? ⟨w.heap.size,2,Zn⟩=Zo (Zs o q p)/\c.cell? ⟨w.heap.size+1,0,Zn⟩=Zo (Zi Zk t)/\c.cell? ⟨w.heap.size+1,1,Zn⟩=Zo (Zs u x v)/\c.cell? ⟨w.heap.size+1,2,Zn⟩=Zo (Zs y A z))):=by intro V r;have i:=d.trans (r.mono d.size);refine (pA (M+1) S a _ _ _ 1 V (O.keep (a6 i I) fun _ h=>h) (fun b B=>Nat.lt_of_lt_of_le (I b B) i.size) D.1 D.2).mono ?_;rintro e c ⟨rfl,C⟩;exact⟨rfl,L.out V r c C⟩
 have HD:Hid (∀V,Bw W V->Calls prog 139 #[Za #[Zi Zk t,Zs u x v,Zs y A z]] V fun e c=>e=.returned (.string (bs (fI (M+1) b)))/\Bw W c/\(c.cell? ⟨w.heap.size,0,Zn⟩=Zo (Zi Zk k)/\c.cell? ⟨w.heap.size,1,Zn⟩=Zo (Zs l n m)/\c.cell? ⟨w.heap.size,2,Zn⟩=Zo (Zs o q p)/\c.cell? ⟨w.heap.size+1,0,Zn⟩=Zo (Zi Zk t)/\c.cell? ⟨w.heap.size+1,1,Zn⟩=Zo (Zs u x v)/\c.cell? ⟨w.heap.size+1,2,Zn⟩=Zo (Zs y A z))):=by intro V r;have i:=d.trans (r.mono d.size);refine (pA (M+1) S b _ _ _ 1 V (B.keep (a6 i I) fun _ h=>h) (fun b B=>Nat.lt_of_lt_of_le (I b B) i.size) E.1 E.2).mono ?_;rintro e c ⟨rfl,C⟩;exact⟨rfl,L.out V r c C⟩
 have F:=a7 d;have aa:Bw W W.drew:=(Below.refl _ _).drew;have HE:Hid (((bs (fI (M+1) a)).toList==(bs (fI (M+1) b)).toList)=ji a b):=IX _ _;obtain⟨z0,z1,z2⟩:=f;obtain⟨z3,z4,z5⟩:=j;generalize bs (fI (M+1) a)=ta at *;generalize bs (fI (M+1) b)=tb at *;clear O B H s D E d L oa ob R;go_in;go_wp2_with fail;rw[<- G];clear G;go_region_held (fun c=>c.cell? ⟨w.heap.size,0,Zn⟩=Zo (Zi Zk k)/\c.cell? ⟨w.heap.size,1,Zn⟩=Zo (Zs l n m)/\c.cell? ⟨w.heap.size,2,Zn⟩=Zo (Zs o q p)/\c.cell? ⟨w.heap.size+1,0,Zn⟩=Zo (Zi Zk t)/\c.cell? ⟨w.heap.size+1,1,Zn⟩=Zo (Zs u x v)/\c.cell? ⟨w.heap.size+1,2,Zn⟩=Zo (Zs y A z)) (first|with_reducible assumption|go_keep) (first
  | (go_at_call 139;with_reducible refine (HA.out _ (by with_reducible assumption)).mono ?_;rintro e w2 ⟨rfl,P,ac⟩)
  | (go_at_call 139;with_reducible refine (HD.out _ (by with_reducible assumption)).mono ?_;rintro e w3 ⟨rfl,Q,ab⟩))
 all_goals
  have J:=a7 (F.out.trans (Below.mono (by first|exact Q|exact P) F.out.size))
  go_wp2
  go_ret
  exact⟨gb HE.out,J.out⟩
end Go.Proofs.YtcfojmaccikgeaaGreatDoor
