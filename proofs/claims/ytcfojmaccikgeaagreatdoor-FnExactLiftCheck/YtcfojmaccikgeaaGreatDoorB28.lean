import Derived.Test.YtcfojmaccikgeaaGreatDoorB15
import Derived.Test.YtcfojmaccikgeaaGreatDoorB23
import Derived.Test.YtcfojmaccikgeaaGreatDoorB26
open Go.Value renaming slice→Zs,int→Zi,string→Zt,pointer→Zp,agg→Za,tuple→Zu,bool→Zb
open Go.IntKind renaming i64→Zk
open Go.Ending renaming returned→Zr
open Go.Obj renaming cells→Zc
open Option renaming none→Zn,some→Zo
open Go renaming World→Zw,Value→Zv
open Array renaming getElem?_eq_some_iff→ZF
namespace Go.Proofs.YtcfojmaccikgeaaGreatDoor
set_option maxRecDepth 100000
set_option maxHeartbeats 16000000
open Go.RowKit Go.WideMaps Go.Maps Go.Proofs.Tryz
variable {S:ZP} {w:Zw} {l:List ZN} {v:Zv}
theorem qb(l:List ZN):∀k,IsMap (jw l k):=by
 intro k;induction k with
 | zero=>exact⟨_,rfl⟩
 | succ k a=>exact a.put _ _
theorem su(s:ZN):WideAt.IsKeyLit (.string s.data.toList):=trivial
theorem wJ{a b:ZN}(h:a≠b):(Lit.string a.data.toList)≠.string b.data.toList:=by intro e;apply h;exact WideShapes.bytes_inj (by injection e)
theorem A4(l:List ZN)(s:ZN):∀k,(∀i,i<k->l.getD i ByteArray.empty≠s)->has (jw l k) (.string s.data.toList)=false:=by
 intro k;induction k with
 | zero=>intro _;rfl
 | succ k a=>intro h;rw[jw,has_put_other (wJ (fun e=>h k om e.symm))];exact a (fun i hi=>h i om)
theorem DY (l:List ZN) (i:Nat):∀ k,i<k->(∀ j,j<k->j≠i->l.getD j ByteArray.empty≠l.getD i ByteArray.empty) ->
  has (jw l k) (.string (l.getD i ByteArray.empty).data.toList)=true/\∀z,(jw l k).atKey (.string (l.getD i ByteArray.empty).data.toList) z=.lit (.int Zk i):=by
 intro k;induction k with
 | zero=>intro h;exact absurd h (Nat.not_lt_zero _)
 | succ k d=>
  intro hi h;by_cases a:i=k;·subst a;exact⟨has_put_same (qb l i) (su _) _,fun z=>atKey_put_same (qb l i) (su _) _ z⟩
  ·have b:(Lit.string (l.getD i ByteArray.empty).data.toList)≠.string (l.getD k ByteArray.empty).data.toList:=wJ (fun e=>h k om (fun e=>a e.symm) e.symm);have:=d om (fun j f c=>h j om c);exact⟨by rw[jw,has_put_other b];exact this.1,fun z=>by rw[jw,atKey_put_other b];exact this.2 z⟩
theorem zV(w:Zw):(zeroValue 3).run prog w=.ok (Zi Zk 0) w:=by kernel_rfl
theorem oR{a b:Int}(h:(DataW.lit (Lit.int Zk a):DataW Unit)=.lit (.int Zk b)):a=b:=by cases h;rfl
theorem yU (h:jG S w l v) (p:uv l) (i:Nat) (hi:i<l.length) (r:l[i].size<=maxLen) :
  (Instr.lookup 115 v (Zt l[i]) true).run prog w=.ok (Zu #[Zi Zk i,Zb true]) w:=by
 obtain⟨u,rfl,-,d⟩:=h;have f:∀j (h:j<l.length),l.getD j ByteArray.empty=l[j]:=fun j h=>by simp[List.getD,h]
 obtain⟨m,n⟩:=DY l i l.length hi (fun j k g e=>g (wo p j i k hi (by rw[<- f j k,<- f i hi];exact e)));rw[f i hi]at m n;obtain⟨c,x,b,s⟩:=d.look_ok Tryz.skeyed underlying115 (zV w) (plainElem_int underlying3 (a:=0) zC) (keyOf_string_mk underlying9 r);obtain⟨t,rfl,q,-⟩:=plainElem_int_inv underlying3 s;rw[m]at b;have e:=congrArg Prod.fst q;rw[n]at e;have o:=oR e;subst o;exact b
theorem B6 (h:jG S w l v) (s:ZN) (g:s ∉ l) (j:s.size<=maxLen) :
  ∃c,(Instr.lookup 115 v (Zt s) true).run prog w=.ok (Zu #[Zi Zk c,Zb false]) w:=by obtain⟨o,rfl,-,d⟩:=h;have m:=A4 l s l.length (fun i hi e=>g (by rw[<- e];simp[List.getD,hi]));obtain⟨c,p,b,k⟩:=d.look_ok Tryz.skeyed underlying115 (zV w) (plainElem_int underlying3 (a:=0) zC) (keyOf_string_mk underlying9 j);obtain⟨f,rfl,n,-⟩:=plainElem_int_inv underlying3 k;rw[m]at b;exact⟨f,b⟩
theorem C3 (S:ZP) (w:Zw) (l:List ZN) (pv:Zv) (b g o len cap f i:Nat) (m:w.cell? ⟨b,2,Zn⟩=Zo pv) (c:jG S w l pv) (a:uv l) (hi:i<l.length) (j:l[i].size<=maxLen)
  (n:w.cell? ⟨b,3,Zn⟩=Zo (Zs (Zo ⟨g,o,Zn⟩) len cap)) (h:i<len) (p:w.cell? ⟨g,o+i,Zn⟩=Zo (Zp (Zo ⟨f,0,Zn⟩))) :
  Calls prog 163 #[Zp (Zo ⟨b,0,Zn⟩),Zt l[i]] w fun e k=>e=Zr (Zp (Zo ⟨f,0,Zn⟩))/\k=w:=by have d:=yU c a i hi j;obtain⟨q,rfl,-⟩:=c;clear a;generalize l[i]=s at *;go_in;go_wp2;go_ret;exact⟨rfl,rfl⟩
theorem FF (S:ZP) (w:Zw) (l:List ZN) (pv:Zv) (b:Nat) (s:ZN) (i:w.cell? ⟨b,2,Zn⟩=Zo pv) (a:jG S w l pv) (f:s ∉ l) (g:s.size<=maxLen) :
  Calls prog 163 #[Zp (Zo ⟨b,0,Zn⟩),Zt s] w fun e h=>e=Zr (Zp Zn)/\h=w:=by obtain⟨c,d⟩:=B6 a s f g;obtain⟨j,rfl,-⟩:=a;go_in;go_wp2;go_ret;exact⟨rfl,rfl⟩
end Go.Proofs.YtcfojmaccikgeaaGreatDoor
namespace Go.Proofs.YtcfojmaccikgeaaGreatDoor
open Go.RowKit Go.Proofs.Tryz
variable {w V W:Zw} {B N M d n:Nat} {a b c u v:Zv} {t:TypeId} {o:Oper}
theorem jp(h:Bw w V)(o:Obj):Bw w (V.alloc o):=h.alloc h.size o
theorem wu(h:Bw w V.drew)(o:Obj):Bw w (V.alloc o).drew:=by have a:Bw w V:=⟨h.os,h.tape,h.output,h.size,h.block⟩;exact (jp a o).drew
theorem iG{g0 g1 g2:Zv}(h:Below B V W)(a:B<=N):Below B V (((W.setCell ⟨N,0,Zn⟩ g0).setCell ⟨N,1,Zn⟩ g1).setCell ⟨N,2,Zn⟩ g2):=((h.setCell a _).setCell a _).setCell a _
theorem oP(W:Zw)(N:Nat)(a b c:Zv):(((W.setCell ⟨N,0,Zn⟩ a).setCell ⟨N,1,Zn⟩ b).setCell ⟨N,2,Zn⟩ c).heap.size=W.heap.size:=by simp
theorem gS(d:M≠N):(((W.setCell ⟨N,0,Zn⟩ a).setCell ⟨N,1,Zn⟩ b).setCell ⟨N,2,Zn⟩ c).heap[M]?=W.heap[M]?:=ia (w:=W) (b:=N) d
theorem fY (h:w.heap[N]?=Zo (Zc #[a,b,c] t (0,0))) :
  (w.cell? ⟨N,0,Zn⟩=Zo a/\w.cell? ⟨N,1,Zn⟩=Zo b/\w.cell? ⟨N,2,Zn⟩=Zo c)/\w.frozen? ⟨N,0,Zn⟩=false/\w.frozen? ⟨N,1,Zn⟩=false/\w.frozen? ⟨N,2,Zn⟩=false:=by refine⟨⟨?_,?_,?_⟩,?_,?_,?_⟩;all_goals simp[World.cell?,World.frozen?,h]
theorem ls{x:Array Zv}(h:w.heap[N]?=Zo (Zc x t (0,0)))(i:Nat)(v:Zv)(a:x[i]?=Zo v):w.cell? ⟨N,i,Zn⟩=Zo v:=by simp[World.cell?,h,a]
theorem qK{o:Obj}(h:Bw W V.drew):Bw W (V.alloc o).drew:=wu h o
def uw(W:Zw)(N:Nat):Prop:=W.heap[N]?=Zo (Zc #[Zi Zk 0,Zs Zn 0 0,Zs Zn 0 0] 31 (0,0))
def mG(W:Zw)(N:Nat):Prop:=W.heap[N]?=Zo (Zc #[Zi Zk 0,Zi Zk 0] 33 (0,0))
theorem uw.lt(h:uw W N):N<W.heap.size:=(ZF.1 h).1
theorem mG.lt(h:mG W N):N<W.heap.size:=(ZF.1 h).1
theorem H6(V:Zw):uw (V.alloc (Zc #[Zi Zk 0,Zs Zn 0 0,Zs Zn 0 0] 31)) V.heap.size:=heap_alloc_new _ _
theorem sx(V:Zw):mG (V.alloc (Zc #[Zi Zk 0,Zi Zk 0] 33)) V.heap.size:=heap_alloc_new _ _
theorem uw.alloc(h:uw V N)(o:Obj):uw (V.alloc o) N:=(Below.heap_alloc _ _ _ h.lt).trans h
theorem mG.alloc(h:mG V N)(o:Obj):mG (V.alloc o) N:=(Below.heap_alloc _ _ _ h.lt).trans h
theorem wt(h:Bw w V)(o a:Obj):Bw w ((V.alloc o).alloc a):=jp (jp h o) a
structure GW(S:ZP)(X M:Nat)(o:Option Nat)(W:Zw)(r:K (M+1)×Int×Nat)(nk nf:Nat)(wx:Zw):Prop where
 below:Bw W wx
 gk:W.heap.size<=nk
 gf:W.heap.size<=nf
 val:∃d0 da dl dc ea el ec,wx.heap[nk]?=Zo (Zc #[Zi Zk d0,Zs da dl dc,Zs ea el ec] 31 (0,0))/\(r.2.1=0->a8 (Ov S X o wx) wx (M+1) r.1 (Zi Zk d0) (Zs da dl dc) (Zs ea el ec))
 flt:wx.heap[nf]?=Zo (Zc #[Zi Zk r.2.1,Zi Zk (r.2.2:Nat)] 33 (0,0))
theorem FP {S Q:ZP} {X:Nat} {o:Option Nat} {y a:Zw} {r:K (M+1) × Int × Nat} {nk nf:Nat} {d:Int} {e h:ZO} {g f j i:Nat} (t:W.heap.size<=nk) (s:W.heap.size<=nf) (q:r.2.1=0->a8 Q y (M+1) r.1 (Zi Zk d) (Zs e g f) (Zs h j i)) (k:∀ b,Q b->b≠nk/\b≠nf/\b<y.heap.size/\(S b∨(X<=b/\o≠Zo b)))
  (c:Bw W a) (v:y.heap.size<=a.heap.size) (u:∀b,b≠nk->b≠nf->b<y.heap.size->a.heap[b]?=y.heap[b]?) (n:a.heap[nk]?=Zo (Zc #[Zi Zk d,Zs e g f,Zs h j i] 31 (0,0))) (p:a.heap[nf]?=Zo (Zc #[Zi Zk r.2.1,Zi Zk (r.2.2:Nat)] 33 (0,0))):GW S X M o W r nk nf a:=by
 refine⟨c,t,s,⟨d,e,g,f,h,j,i,n,fun m=>(q m).keep (fun b c=>?_) fun b c=>?_⟩,p⟩;·obtain⟨l,a2,a3,-⟩:=k b c;exact u b l a2 a3
 ·obtain⟨-,-,a3,a4⟩:=k b c;rcases a4 with a4|a4;·exact .inl a4
  ·exact .inr ⟨a4.1,om,a4.2⟩
theorem Ge(V:Zw)(o:Obj):uw ((V.alloc o).alloc (Zc #[Zi Zk 0,Zs Zn 0 0,Zs Zn 0 0] 31)) (V.heap.size+1):=by have:=H6 (V.alloc o);simpa using this
theorem y8(V:Zw)(o:Obj):mG ((V.alloc o).alloc (Zc #[Zi Zk 0,Zi Zk 0] 33)) (V.heap.size+1):=by have:=sx (V.alloc o);simpa using this
theorem nV{b:Nat}(h:b≠N):((W.setCell ⟨N,0,Zn⟩ u).setCell ⟨N,1,Zn⟩ v).heap[b]?=W.heap[b]?:=by rw[Below.heap_setCell _ _ _ _ h,Below.heap_setCell _ _ _ _ h]
theorem IF{x y:Zv}(h:W.heap[N]?=Zo (Zc #[x,y] t (0,0))):((W.setCell ⟨N,0,Zn⟩ u).setCell ⟨N,1,Zn⟩ v).heap[N]?=Zo (Zc #[u,v] t (0,0)):=by simp[World.setCell,Array.getElem?_modify,h]
theorem I9{z:Zv}(h:W.heap[N]?=Zo (Zc #[a,b,c] t (0,0))):(((W.setCell ⟨N,0,Zn⟩ u).setCell ⟨N,1,Zn⟩ v).setCell ⟨N,2,Zn⟩ z).heap[N]?=Zo (Zc #[u,v,z] t (0,0)):=by simp[World.setCell,Array.getElem?_modify,h]
theorem iF(h:Below B V W)(a:B<=N):Below B V ((W.setCell ⟨N,0,Zn⟩ u).setCell ⟨N,1,Zn⟩ v):=(h.setCell a _).setCell a _
theorem wH(W:Zw)(N:Nat)(u v:Zv):((W.setCell ⟨N,0,Zn⟩ u).setCell ⟨N,1,Zn⟩ v).heap.size=W.heap.size:=by simp
theorem gg(h:w.heap[N]?=Zo (Zc #[a,b] t (0,0))):(w.cell? ⟨N,0,Zn⟩=Zo a/\w.cell? ⟨N,1,Zn⟩=Zo b)/\w.frozen? ⟨N,0,Zn⟩=false/\w.frozen? ⟨N,1,Zn⟩=false:=by simp[World.cell?,World.frozen?,h]
section
variable {S Q:ZP} {X M:Nat} {o:Option Nat} {W y:Zw} {r:K (M+1)×Int×Nat} {nk nf:Nat} {d0:Int} {da ea:ZO} {dl dc el ec:Nat}
theorem FO (l:Bw W y) (j:r.2.1=0->a8 Q y (M+1) r.1 (Zi Zk d0) (Zs da dl dc) (Zs ea el ec)) (h:uw y nk) (g:mG y nf) (f:W.heap.size<=nk) (d:W.heap.size<=nf) (k:∀ b,Q b->b≠nk/\b≠nf/\b<y.heap.size/\(S b∨(X<=b/\o≠Zo b))) :
  GW S X M o W r nk nf ((((( y.setCell ⟨nk,0,Zn⟩ (Zi Zk d0)).setCell ⟨nk,1,Zn⟩ (Zs da dl dc)).setCell ⟨nk,2,Zn⟩ (Zs ea el ec)).setCell ⟨nf,0,Zn⟩ (Zi Zk r.2.1)).setCell ⟨nf,1,Zn⟩ (Zi Zk (r.2.2:Nat))):=by
 have a:nk≠nf:=fun e=>by subst e;have c:_=_:=h.symm.trans g;cases c
 refine FP f d j k (iF (iG l f) d) (by rw[wH,oP];exact Nat.le_refl _) (fun b c i _=>by rw[nV i,gS c]) ?_ ?_;·rw[nV a];exact I9 h
 ·exact IF ((gS (fun e=>a e.symm)).trans g)
theorem I8 (d:Bw W y) (f:r.2.1=0->a8 Q y (M+1) r.1 (Zi Zk d0) (Zs da dl dc) (Zs ea el ec)) (a:∀ b,Q b->b<y.heap.size/\(S b∨(X<=b/\o≠Zo b))) :
  GW S X M o W r y.heap.size (y.heap.size+1) ((y.alloc (Zc #[Zi Zk d0,Zs da dl dc,Zs ea el ec] 31)).alloc (Zc #[Zi Zk r.2.1,Zi Zk (r.2.2:Nat)] 33)):=by
 have c:=d.size;refine FP c om f (fun b h=>⟨by have:=(a b h).1;omega,by have:=(a b h).1;omega,a b h⟩) (wt d _ _) zE (fun b _ _ e=>by rw[Below.heap_alloc _ _ _ zE,Below.heap_alloc _ _ _ e]) ?_ ?_;·rw[Below.heap_alloc _ _ _ zS];exact heap_alloc_new _ _
 ·have:=heap_alloc_new (y.alloc (Zc #[Zi Zk d0,Zs da dl dc,Zs ea el ec] 31)) (Zc #[Zi Zk r.2.1,Zi Zk (r.2.2:Nat)] 33);simpa using this
end
def jZ:Nat->Array Bool->Nat
 | 0,_=>0
 | k+1,l=>jZ k l+(if l.getD k true=true then 0 else 1)
theorem qe(l:Array Bool)(i:Nat):(l.setIfInBounds i true).getD i true=true:=by
 by_cases h:i<l.size;·simp[Array.getD,h]
 ·simp[Array.getD,h]
theorem Ek(i:Nat)(l:Array Bool):∀k,jZ k (l.setIfInBounds i true)<=jZ k l:=by
 intro k;induction k with
 | zero=>exact Nat.le_refl _
 | succ k a=>
  unfold jZ;by_cases h:i=k;·subst h;rw[qe];simp;omega
  ·rw[getD_set_ne true h];omega
theorem nD(i:Nat)(l:Array Bool)(b:l.getD i true=false):∀k,i<k->jZ k (l.setIfInBounds i true)+1<=jZ k l:=by
 intro k;induction k with
 | zero=>intro h;omega
 | succ k c=>
  intro h;unfold jZ;by_cases a:i=k;·subst a;rw[qe,b];have:=Ek i l i;simp;omega
  ·rw[getD_set_ne true a];have:=c om;omega
theorem oC(l:Array Bool):∀k,jZ k l=0->∀j,j<k->l.getD j true=true:=by
 intro k;induction k with
 | zero=>intro _ j h;omega
 | succ k b=>
  intro h j c;unfold jZ at h;by_cases a:j=k
  ·subst a;split at h;·assumption
   ·omega
  ·exact b om j om
theorem qm(l:Array Bool):∀k,0<jZ k l->∃j,j<k/\l.getD j true=false/\∀i,i<j->l.getD i true=true:=by
 intro k;induction k with
 | zero=>intro h;exact absurd h (Nat.lt_irrefl _)
 | succ k d=>
  intro h;by_cases a:0<jZ k l;·obtain⟨j,e,b,c⟩:=d a;exact⟨j,om,b,c⟩
  ·refine⟨k,Nat.lt_succ_self _,?_,oC l k om⟩;unfold jZ at h;split at h;·omega
   ·next hne=>
    cases hx:l.getD k true with
    | true=>exact absurd hx hne
    | false=>rfl
theorem lZ{t:Array Zv}{k:Nat}(h:d≠k):(t.setIfInBounds d v).getD k undef=t.getD k undef:=by rw[Array.getD_eq_getD_getElem?,Array.getD_eq_getD_getElem?,Array.getElem?_setIfInBounds_ne h]
theorem oO{t:Array Zv}(h:d<t.size):(t.setIfInBounds d v).getD d undef=v:=by rw[Array.getD_eq_getD_getElem?,Array.getElem?_setIfInBounds_self_of_lt h];rfl
theorem Jo{a:Array Oper}{D:Nat->Tmp}(h:(List.range n).all (fun i=>match a[i]? with|Zo o=>decide (o.dst=Zo (D i)) && o.guard.isNone && o.after.all (fun e=>decide (e.on<i))|Zn=>false)=true):∀i,i<n->∃o,a[i]?=Zo o/\o.dst=Zo (D i)/\o.guard=Zn/\∀e,e∈o.after->e.on<i:=by
 intro i hi;have:=List.all_eq_true.1 h i (List.mem_range.2 hi);split at this
 ·next o ho=>
  simp only[Bool.and_eq_true,decide_eq_true_eq,Option.isNone_iff_eq_none]at this;exact⟨o,ho,this.1.1,this.1.2,fun e b=>by simpa using (Array.all_eq_true_iff_forall_mem.1 this.2) e b⟩
 ·cases this
theorem IP(h:o.after.all (fun e=>decide (e.on<n))=true):∀e,e∈o.after->e.on<n:=fun e a=>by simpa using (Array.all_eq_true_iff_forall_mem.1 h) e a
theorem Jq{j:Nat}(a:j<n):(Array.replicate n false).getD j true=false:=by simp[Array.getD,a]
theorem Hz{b:Region.Mode}(h:(List.range n).all (fun j=>o.after.any fun e=>Region.binds b e && decide (e.on=j))=true):∀j,j<n->∃e,e∈o.after/\Region.binds b e=true/\e.on=j:=by intro j c;have:=List.all_eq_true.1 h j (List.mem_range.2 c);obtain⟨i,hi,a⟩:=Array.any_eq_true.1 this;simp only[Bool.and_eq_true,decide_eq_true_eq]at a;exact⟨o.after[i],Array.getElem_mem hi,a.1,a.2⟩
section
variable {P:Program} {md:Region.Mode} {ops:Array Oper} {Q:Exit->Act->Zw->Prop}
theorem Ff (n:Nat) (V0:Zw) (a0:Act) (J:Nat->Zv->Zw->Prop) (D:Nat->Tmp) (K:Oper)
  (al:ops.size=n+1) (hN:ops[n]?=Zo K) (ac:K.guard=Zn) (ab:∀j,j<n->∃e,e∈K.after/\Region.binds md e=true/\e.on=j) (B:∀e,e∈K.after->e.on<n)
  (A:∀i,i<n->∃o,ops[i]?=Zo o/\o.dst=Zo (D i)/\o.guard=Zn/\∀e,e∈o.after->e.on<i)
  (N:∀i j,i<n->j<n->D i=D j->i=j) (hD:∀i,i<n->D i<a0.tmps.size)
  (hJ:∀j v W g,J j v W->Bw W g->J j v g)
  (I:∀i o,i<n->ops[i]?=Zo o->∀a W,Bw V0 W->(a.tmps.size=a0.tmps.size/\a.defers=a0.defers)->(∀k,(∀i,i<n->D i≠k)->a.tmps.getD k undef=a0.tmps.getD k undef)->(∀e,e∈o.after->Region.binds md e=true->J e.on (a.tmps.getD (D e.on) undef) W) ->
   Oper.wp P o a W (fun x g=>∃v,x=a.put o.dst v/\Bw W g/\J i v g) Q)
  (M:∀a W,Bw V0 W->(a.tmps.size=a0.tmps.size/\a.defers=a0.defers)->(∀k,(∀i,i<n->D i≠k)->a.tmps.getD k undef=a0.tmps.getD k undef)->(∀j,j<n->J j (a.tmps.getD (D j) undef) W)->Oper.wp P K a W (fun x g=>Q .normal x g) Q) :
  ∀(u c:Nat)(b:Array Bool)(a:Act)(W:Zw),jZ n b=u->u+1<=c->b.size=n+1->b.getD n true=false->Bw V0 W->(a.tmps.size=a0.tmps.size/\a.defers=a0.defers)->(∀k,(∀i,i<n->D i≠k)->a.tmps.getD k undef=a0.tmps.getD k undef)->(∀j,j<n->b.getD j true=true->J j (a.tmps.getD (D j) undef) W) ->
   wpAnyH P md ops Q (fun _=>True) c b a W:=by
 intro u;induction u using Nat.strongRecOn with
 | _ u ih=>
  intro c b a W hu hf ah U Z s G hj;obtain⟨c,rfl⟩:∃f,c=f+1:=⟨c-1,om⟩;by_cases h0:u=0
  ·subst h0;have l:=oC b n hu;have ai:∀j,j<n->b.getD j false=true:=fun j h=>by have:=l j h;have p:j<b.size:=om;simp[Array.getD,p]at this ⊢;exact this
   have Y:n∈Region.ready md ops b:=mem_ready.2 ⟨U,K,hN,fun e z aj=>by
    by_cases ad:e.on<n
    ·exact ai _ ad
    ·exact absurd (B e z) om⟩
   refine⟨fun h=>(by rw[h]at Y;cases Y),fun i hi=>?_⟩;have d:i=n:=by
    obtain⟨q,o,r,-⟩:=mem_ready.1 hi;have:i<ops.size:=(ZF.1 r).1;by_cases d:i<n;·rw[l i d]at q;cases q
    ·omega
   subst d;have F:∀x g,Q .normal x g->wpAnyH P md ops Q (fun _=>True) c (b.setIfInBounds i true) x g:=fun x g hq=>by
    have V:Region.ready md ops (b.setIfInBounds i true)=[]:=by
     rw[List.eq_nil_iff_forall_not_mem];intro j y;obtain⟨q,o,r,-⟩:=mem_ready.1 y;have:j<ops.size:=(ZF.1 r).1;by_cases m:i=j;·subst m;rw[qe]at q;cases q
     ·rw[getD_set_ne true m,l j om]at q;cases q
    cases c with
    | zero=>exact⟨V,hq⟩
    | succ f=>exact⟨fun _=>hq,fun j y=>by rw[V]at y;cases y⟩
   unfold wpOp;simp only[hN];rw[if_pos (by simp[Region.wanted,ac])];exact .inl (Oper.wp_mono (fun x g h=>⟨trivial,F x g h⟩) (M a W Z s G fun j h=>hj j h (l j h)))
  ·obtain⟨j0,O,R,ag⟩:=qm b n om;have X:j0∈Region.ready md ops b:=by obtain⟨o,ho,-,-,C⟩:=A j0 O;refine mem_ready.2 ⟨R,o,ho,fun e z _=>?_⟩;have q:=C e z;have r:=ag e.on q;have p:e.on<b.size:=om;simp[Array.getD,p]at r ⊢;exact r
   refine⟨fun h=>(by rw[h]at X;cases X),fun i hi=>?_⟩;obtain⟨q,o,r,h3⟩:=mem_ready.1 hi;have ak:i<ops.size:=(ZF.1 r).1;have w:∀j,b.getD j false=true->b.getD j true=true:=fun j h=>by
    by_cases p:j<b.size;·simp[Array.getD,p]at h ⊢;exact h
    ·simp[Array.getD,p]at h
   have d:i<n:=by
    by_cases d:i<n;·exact d
    ·have:i=n:=by omega
     subst this;rw[hN]at r;cases r
     obtain⟨e,z,E,ae⟩:=ab j0 O;have:=w _ (h3 e z E);rw[ae,R]at this;cases this
   obtain⟨o',H,t,af,C⟩:=A i d;rw[H]at r;cases r
   unfold wpOp;simp only[H];rw[if_pos (by simp[Region.wanted,af])];refine .inl (Oper.wp_mono ?_ (I i _ d H a W Z s G fun e z E=>hj e.on (by have:=C e z;omega) (w _ (h3 e z E))));rintro x g ⟨v,rfl,L,aa⟩;refine⟨trivial,ih _ ?_ c _ _ g rfl ?_ (by simpa using ah) ?_ (Z.trans (L.mono Z.size)) ?_ ?_ ?_⟩;·have:=nD i b q n d;omega
   ·have:=nD i b q n d;omega
   ·rw[getD_set_ne true om];exact U
   ·rw[t];exact⟨by simpa [Act.put] using s.1,s.2⟩
   ·intro k hk;rw[t];show (a.tmps.setIfInBounds (D i) v).getD k undef=_;rw[lZ (fun e=>hk i d e)];exact G k hk
   ·intro j T S;rw[t];show J j ((a.tmps.setIfInBounds (D i) v).getD (D j) undef) g;by_cases m:i=j;·subst m;rw[oO (by rw[s.1];exact hD i d)];exact aa
    ·rw[lZ (fun e=>m (N i j d T e))];rw[getD_set_ne true m]at S;exact hJ j _ W g (hj j T S) L
end
set_option maxRecDepth 100000
set_option maxHeartbeats 16000000
theorem rx (n:Nat) (S:ZP) (t:K n) (c0 c1 c2:Zv) (w:Zw) (c:a8 S w n t c0 c1 c2) (o:Bd S w) :
  Calls prog 57 #[Za #[c0,c1,c2]] w fun e r=>e=Zr (Zb (jH n t))/\Bw w r:=by
 cases n with
 | zero=>exact c.elim
 | succ n=>
  obtain⟨d,s,v,u,x,z,y,rfl,rfl,rfl⟩:=c.shape;obtain⟨W,a⟩:=ii (w.alloc (Zc #[Zi Zk d,Zs s v u,Zs x z y] 31));have f:Bw w W:=by rw[a];exact gx _ _
  have p:d=Kd.sort t:=by have:=c.1;injection this
  obtain⟨⟨A,B,C⟩,-⟩:=fY (show W.heap[w.heap.size]?=_ by rw[a];exact heap_alloc_new _ _);have j:=a7 (ow (n+1) S t _ _ _ W (c.keep (a6 f o) fun _ h=>h) (fun b h=>Nat.lt_of_lt_of_le (o b h) f.size));have k:Hid (jH (n+1) t=(gF (n+1) t && (d==5))):=by show _=_;rw[p];rfl
  rw[k.out];have g:=a7 f;clear c p k f;by_cases m:d=5;·subst m;go_in;go_wp2_with fail;rw[<- a];clear a;refine j.out.mono ?_;rintro e D ⟨rfl,l⟩;have q:=a7 (g.out.trans (l.mono g.out.size));clear j l;go_wp2;go_ret;exact⟨by simp,q.out⟩
  ·have i:(d==5)=false:=by simpa using m
   rw[i,Bool.and_false];go_in;go_wp2;go_ret;rw[<- a];exact⟨rfl,g.out⟩
theorem Be(l:mq M)(i:Nat)(h:i<l.length)(x:ZN)(y:Int):jx (l.drop i) x y=if l[i].1.1=x/\l[i].1.2=y then Zo l[i].2 else jx (l.drop (i+1)) x y:=by rw[List.drop_eq_getElem_cons h];obtain⟨⟨s,v⟩,k⟩:=l[i];rfl
def IL(S:ZP)(M:Nat)(r:Option (K (M+1)))(w:Zw)(e:Ending)(w':Zw):Prop:=
 Bw w w' /\ ((r=Zn/\e=Zr (Zu #[Za #[Zi Zk 0,Zs Zn 0 0,Zs Zn 0 0],Zb false]))∨∃k a b d c f h g,r=Zo k/\e=Zr (Zu #[Za #[Zi Zk a,Zs b d c,Zs f h g],Zb true])/\a8 S w' (M+1) k (Zi Zk a) (Zs b d c) (Zs f h g))
theorem yN (M:Nat) (S:ZP) (l:mq M) (sv:Zv) (x:ZN) (y:Int) (w:Zw) (Y:gY S w (M+1) l sv) (P:Bd S w) (hl:l.length<=1048576) :
  Calls prog 89 #[sv,Zt x,Zi Zk y] w (IL S M (jx l x y) w):=by
 obtain⟨ao,cap,rfl,ac,g⟩:=id Y;obtain⟨W,L⟩:=ii (w.alloc (Zc #[Zi Zk 0,Zs Zn 0 0,Zs Zn 0 0] 31));have Q:Bw w W:=by rw[L];exact gx _ _
 have F:W.heap[w.heap.size]?=Zo (Zc #[Zi Zk 0,Zs Zn 0 0,Zs Zn 0 0] 31 (0,0)):=by rw[L];exact heap_alloc_new _ _
 obtain⟨⟨Z,r1,r2⟩,s0,s1,s2⟩:=fY F;have O:=a7 g;have B:=a7 Q;have C:Hid (∀k o p r q t z u,a8 S w (M+1) k (Zi Zk o) (Zs p r q) (Zs t z u)->a8 S (((W.setCell ⟨w.heap.size,0,Zn⟩ (Zi Zk o)).setCell ⟨w.heap.size,1,Zn⟩ (Zs p r q)).setCell ⟨w.heap.size,2,Zn⟩ (Zs t z u)) (M+1) k (Zi Zk o) (Zs p r q) (Zs t z u)):=fun k o p r q t z u h=>h.keep (fun b E=>(gS (by have:=P b E;omega)).trans (Q.block b (P b E))) fun _ h=>h;have D:=a7 (fun i h=>Be l i h x y);clear g Q F Y;go_in;go_wp2_with fail;rw[<- L];clear L;go_loop [8] (fun T=>∃i:Nat,T=Zi Zk i/\i<=l.length/\Hid (jx l x y=jx (l.drop i) x y)) (fun T=>l.length-(intOf T).toNat);case atStart=>exact⟨0,rfl,Nat.zero_le _,rfl⟩
 case round=>
  obtain⟨i,rfl,ab,d⟩:=hrel;by_cases m:i<l.length
  ·obtain⟨b,off,rfl,R,c⟩:=O.out (by intro h;rw[h]at m;simp at m);obtain⟨k0,k1,k2,G,H,I,J,K,ae,f⟩:=c i m;obtain⟨o,p,r,q,t,z,u,rfl,rfl,rfl⟩:=f.shape;have e:=P b R;have ad:¬b=w.heap.size:=om;have f0:=kC B.out G e;have f1:=kC B.out H e;have f2:=kC B.out I e;have f3:=kC B.out J e;have f4:=kC B.out K e;have aa:(i:Int)<(l.length:Int):=om;have a:=D.out i m;rw[<- d.out]at a;generalize l[i].1.1=s at *;generalize l[i].1.2=v at *;by_cases j:s=x
   ·by_cases n:v=y;·rw[if_pos ⟨j,n⟩]at a;have N:Hid (IL S M (jx l x y) w (Zr (Zu #[Za #[Zi Zk o,Zs p r q,Zs t z u],Zb true])) (((W.setCell ⟨w.heap.size,0,Zn⟩ (Zi Zk o)).setCell ⟨w.heap.size,1,Zn⟩ (Zs p r q)).setCell ⟨w.heap.size,2,Zn⟩ (Zs t z u))):=⟨iG B.out (Nat.le_refl _),.inr ⟨_,o,p,r,q,t,z,u,a,rfl,C.out _ _ _ _ _ _ _ _ f⟩⟩;subst j n;have X:(s.toList==s.toList)=true:=zS;clear c G H I J K f a C D d;go_wp2_with fail;refine bodyPost_ret (v:=Zu #[Za #[Zi Zk o,Zs p r q,Zs t z u],Zb true]) (by simp[results,results89,go_sem,Z,r1,r2]) rfl ?_;exact N.out
    ·rw[if_neg (fun h=>n h.2)]at a;have A:=a7 a;subst j;have X:(s.toList==s.toList)=true:=zS;have af:(v==y)=false:=by simpa using n
     clear c G H I J K f a C D d;go_wp2;go_round;case rel=>exact⟨i+1,by go_num,om,A.out⟩
     case measure=>simp[intOf];omega
   ·rw[if_neg (fun h=>j h.1)]at a;have A:=a7 a;have X:(s.toList==x.toList)=false:=by rw[Cs];exact decide_eq_false j
    clear c G H I J K f a C D d;go_wp2;go_round;case rel=>exact⟨i+1,by go_num,om,A.out⟩
    case measure=>simp[intOf];omega
  ·have U:¬(i:Int)<(l.length:Int):=om;have V:jx l x y=Zn:=by rw[d.out,List.drop_eq_nil_of_le om];rfl
   have N:Hid (IL S M (jx l x y) w (Zr (Zu #[Za #[Zi Zk 0,Zs Zn 0 0,Zs Zn 0 0],Zb false])) (((W.setCell ⟨w.heap.size,0,Zn⟩ (Zi Zk 0)).setCell ⟨w.heap.size,1,Zn⟩ (Zs Zn 0 0)).setCell ⟨w.heap.size,2,Zn⟩ (Zs Zn 0 0))):=⟨iG B.out (Nat.le_refl _),.inl ⟨V,rfl⟩⟩;clear C D d V;go_wp2_with fail;refine bodyPost_ret (v:=Zu #[Za #[Zi Zk 0,Zs Zn 0 0,Zs Zn 0 0],Zb false]) (by simp[results,results89,go_sem,Z,r1,r2]) rfl ?_;exact N.out
end Go.Proofs.YtcfojmaccikgeaaGreatDoor
