import Derived.Test.YtcfojmaccikgeaaGreatDoorB32
import Derived.Test.YtcfojmaccikgeaaGreatDoorB2
import Derived.Test.YtcfojmaccikgeaaGreatDoorB13
import Derived.Test.YtcfojmaccikgeaaGreatDoorB28
import Derived.Deep.Cut
import Derived.Deep.CutRange
import Derived.LaidEqlPtr
open Go.Value renaming pointer→Zp,bool→Zb
open Go.Ending renaming returned→Zr
open Go.Obj renaming cells→Zc
open Option renaming none→Zn,some→Zo
open Go renaming World→Zw,Value→Zv
open Bool renaming and_eq_true→Zq
open Array renaming getElem?_eq_some_iff→ZF
namespace Go.Proofs.YtcfojmaccikgeaaGreatDoor
open Go.RowKit Go.Proofs.Tryz
variable {t:Array Zv} {d n p:Nat} {v:Zv} {o:Oper} {S S':Nat->Prop} {w:Zw}
def jP:Nat->Array Bool->Nat
 | 0,_=>0
 | k+1,l=>jP k l+(if l.getD k true=true then 0 else 1)
theorem pM(l:Array Bool)(i:Nat):(l.setIfInBounds i true).getD i true=true:=by
 by_cases h:i<l.size;·simp[Array.getD,h]
 ·simp[Array.getD,h]
theorem CE(i:Nat)(l:Array Bool):∀k,jP k (l.setIfInBounds i true)<=jP k l:=by
 intro k;induction k with
 | zero=>exact Nat.le_refl _
 | succ k a=>
  unfold jP;by_cases h:i=k;·subst h;rw[pM];simp;omega
  ·rw[getD_set_ne true h];omega
theorem nt(i:Nat)(l:Array Bool)(c:l.getD i true=false):∀k,i<k->jP k (l.setIfInBounds i true)+1<=jP k l:=by
 intro k;induction k with
 | zero=>intro h;omega
 | succ k b=>
  intro h;unfold jP;by_cases a:i=k;·subst a;rw[pM,c];have:=CE i l i;simp;omega
  ·rw[getD_set_ne true a];have:=b om;omega
theorem og(l:Array Bool):∀k,jP k l=0->∀j,j<k->l.getD j true=true:=by
 intro k;induction k with
 | zero=>intro _ j h;omega
 | succ k b=>
  intro h j c;unfold jP at h;by_cases a:j=k
  ·subst a;split at h;·assumption
   ·omega
  ·exact b om j om
theorem pK(l:Array Bool):∀k,0<jP k l->∃j,j<k/\l.getD j true=false/\∀i,i<j->l.getD i true=true:=by
 intro k;induction k with
 | zero=>intro h;exact absurd h (Nat.lt_irrefl _)
 | succ k d=>
  intro h;by_cases c:0<jP k l;·obtain⟨j,e,a,b⟩:=d c;exact⟨j,om,a,b⟩
  ·refine⟨k,Nat.lt_succ_self _,?_,og l k om⟩;unfold jP at h;split at h;·omega
   ·next hne=>
    cases hx:l.getD k true with
    | true=>exact absurd hx hne
    | false=>rfl
theorem lY{k:Nat}(h:d≠k):(t.setIfInBounds d v).getD k undef=t.getD k undef:=by rw[Array.getD_eq_getD_getElem?,Array.getD_eq_getD_getElem?,Array.getElem?_setIfInBounds_ne h]
theorem oC(h:d<t.size):(t.setIfInBounds d v).getD d undef=v:=by rw[Array.getD_eq_getD_getElem?,Array.getElem?_setIfInBounds_self_of_lt h];rfl
theorem IB{a:Array Oper}{D:Nat->Tmp}(h:(List.range n).all (fun i=>match a[i]? with|Zo o=>decide (o.dst=Zo (D i)) && o.guard.isNone && o.after.all (fun e=>decide (e.on<i))|Zn=>false)=true):∀i,i<n->∃o,a[i]?=Zo o/\o.dst=Zo (D i)/\o.guard=Zn/\∀e,e∈o.after->e.on<i:=by
 intro i hi;have:=List.all_eq_true.1 h i (List.mem_range.2 hi);split at this
 ·next o ho=>
  simp only[Zq,decide_eq_true_eq,Option.isNone_iff_eq_none]at this;exact⟨o,ho,this.1.1,this.1.2,fun e b=>by simpa using (Array.all_eq_true_iff_forall_mem.1 this.2) e b⟩
 ·cases this
theorem Ix(h:o.after.all (fun e=>decide (e.on<n))=true):∀e,e∈o.after->e.on<n:=fun e a=>by simpa using (Array.all_eq_true_iff_forall_mem.1 h) e a
theorem I1{j:Nat}(a:j<n):(Array.replicate n false).getD j true=false:=by simp[Array.getD,a]
theorem G5{a:Region.Mode}(h:(List.range n).all (fun j=>o.after.any fun e=>Region.binds a e && decide (e.on=j))=true):∀j,j<n->∃e,e∈o.after/\Region.binds a e=true/\e.on=j:=by intro j c;have:=List.all_eq_true.1 h j (List.mem_range.2 c);obtain⟨i,hi,b⟩:=Array.any_eq_true.1 this;simp only[Zq,decide_eq_true_eq]at b;exact⟨o.after[i],Array.getElem_mem hi,b.1,b.2⟩
section
variable {P:Program} {md:Region.Mode} {ops:Array Oper} {Q:Exit->Act->Zw->Prop}
theorem F1 (n:Nat) (V0:Zw) (a0:Act) (J:Nat->Zv->Zw->Prop) (D:Nat->Tmp) (K:Oper)
  (al:ops.size=n+1) (hN:ops[n]?=Zo K) (af:K.guard=Zn) (aa:∀j,j<n->∃e,e∈K.after/\Region.binds md e=true/\e.on=j) (E:∀e,e∈K.after->e.on<n)
  (z:∀i,i<n->∃o,ops[i]?=Zo o/\o.dst=Zo (D i)/\o.guard=Zn/\∀e,e∈o.after->e.on<i)
  (U:∀i j,i<n->j<n->D i=D j->i=j) (hD:∀i,i<n->D i<a0.tmps.size)
  (hJ:∀j v W g,J j v W->Bw W g->J j v g)
  (C:∀i o,i<n->ops[i]?=Zo o->∀a W,Bw V0 W->(a.tmps.size=a0.tmps.size/\a.defers=a0.defers)->(∀k,(∀i,i<n->D i≠k)->a.tmps.getD k undef=a0.tmps.getD k undef)->(∀e,e∈o.after->Region.binds md e=true->J e.on (a.tmps.getD (D e.on) undef) W) ->
   Oper.wp P o a W (fun x g=>∃v,x=a.put o.dst v/\Bw W g/\J i v g) Q)
  (Y:∀a W,Bw V0 W->(a.tmps.size=a0.tmps.size/\a.defers=a0.defers)->(∀k,(∀i,i<n->D i≠k)->a.tmps.getD k undef=a0.tmps.getD k undef)->(∀j,j<n->J j (a.tmps.getD (D j) undef) W)->Oper.wp P K a W (fun x g=>Q .normal x g) Q) :
  ∀(u c:Nat)(b:Array Bool)(a:Act)(W:Zw),jP n b=u->u+1<=c->b.size=n+1->b.getD n true=false->Bw V0 W->(a.tmps.size=a0.tmps.size/\a.defers=a0.defers)->(∀k,(∀i,i<n->D i≠k)->a.tmps.getD k undef=a0.tmps.getD k undef)->(∀j,j<n->b.getD j true=true->J j (a.tmps.getD (D j) undef) W) ->
   wpAnyH P md ops Q (fun _=>True) c b a W:=by
 intro u;induction u using Nat.strongRecOn with
 | _ u ih=>
  intro c b a W hu hf ai X Z w H hj;obtain⟨c,rfl⟩:∃f,c=f+1:=⟨c-1,om⟩;by_cases h0:u=0
  ·subst h0;have l:=og b n hu;have ah:∀j,j<n->b.getD j false=true:=fun j h=>by have:=l j h;have m:j<b.size:=om;simp[Array.getD,m]at this ⊢;exact this
   have V:n∈Region.ready md ops b:=mem_ready.2 ⟨X,K,hN,fun e A aj=>by
    by_cases ad:e.on<n
    ·exact ah _ ad
    ·exact absurd (E e A) om⟩
   refine⟨fun h=>(by rw[h]at V;cases V),fun i hi=>?_⟩;have d:i=n:=by
    obtain⟨r,o,q,-⟩:=mem_ready.1 hi;have:i<ops.size:=(ZF.1 q).1;by_cases d:i<n;·rw[l i d]at r;cases r
    ·omega
   subst d;have G:∀x g,Q .normal x g->wpAnyH P md ops Q (fun _=>True) c (b.setIfInBounds i true) x g:=fun x g hq=>by
    have L:Region.ready md ops (b.setIfInBounds i true)=[]:=by
     rw[List.eq_nil_iff_forall_not_mem];intro j y;obtain⟨r,o,q,-⟩:=mem_ready.1 y;have:j<ops.size:=(ZF.1 q).1;by_cases p:i=j;·subst p;rw[pM]at r;cases r
     ·rw[getD_set_ne true p,l j om]at r;cases r
    cases c with
    | zero=>exact⟨L,hq⟩
    | succ f=>exact⟨fun _=>hq,fun j y=>by rw[L]at y;cases y⟩
   unfold wpOp;simp only[hN];rw[if_pos (by simp[Region.wanted,af])];exact .inl (Oper.wp_mono (fun x g h=>⟨trivial,G x g h⟩) (Y a W Z w H fun j h=>hj j h (l j h)))
  ·obtain⟨j0,T,N,ac⟩:=pK b n om;have S:j0∈Region.ready md ops b:=by obtain⟨o,ho,-,-,I⟩:=z j0 T;refine mem_ready.2 ⟨N,o,ho,fun e A _=>?_⟩;have r:=I e A;have q:=ac e.on r;have m:e.on<b.size:=om;simp[Array.getD,m]at q ⊢;exact q
   refine⟨fun h=>(by rw[h]at S;cases S),fun i hi=>?_⟩;obtain⟨r,o,q,h3⟩:=mem_ready.1 hi;have ak:i<ops.size:=(ZF.1 q).1;have t:∀j,b.getD j false=true->b.getD j true=true:=fun j h=>by
    by_cases m:j<b.size;·simp[Array.getD,m]at h ⊢;exact h
    ·simp[Array.getD,m]at h
   have d:i<n:=by
    by_cases d:i<n;·exact d
    ·have:i=n:=by omega
     subst this;rw[hN]at q;cases q
     obtain⟨e,A,B,ae⟩:=aa j0 T;have:=t _ (h3 e A B);rw[ae,N]at this;cases this
   obtain⟨o',F,s,ag,I⟩:=z i d;rw[F]at q;cases q
   unfold wpOp;simp only[F];rw[if_pos (by simp[Region.wanted,ag])];refine .inl (Oper.wp_mono ?_ (C i _ d F a W Z w H fun e A B=>hj e.on (by have:=I e A;omega) (t _ (h3 e A B))));rintro x g ⟨v,rfl,R,ab⟩;refine⟨trivial,ih _ ?_ c _ _ g rfl ?_ (by simpa using ai) ?_ (Z.trans (R.mono Z.size)) ?_ ?_ ?_⟩;·have:=nt i b r n d;omega
   ·have:=nt i b r n d;omega
   ·rw[getD_set_ne true om];exact X
   ·rw[s];exact⟨by simpa [Act.put] using w.1,w.2⟩
   ·intro k hk;rw[s];show (a.tmps.setIfInBounds (D i) v).getD k undef=_;rw[lY (fun e=>hk i d e)];exact H k hk
   ·intro j O M;rw[s];show J j ((a.tmps.setIfInBounds (D i) v).getD (D j) undef) g;by_cases p:i=j;·subst p;rw[oC (by rw[w.1];exact hD i d)];exact ab
    ·rw[lY (fun e=>p (U i j d O e))];rw[getD_set_ne true p]at M;exact hJ j _ W g (hj j O M) R
end
theorem d8.up:∀ {n:Nat} {t:K n} {v:Zv},d8 S w n t v->d8 S w (n+1) (fQ n n t) v:=by
 intro n;induction n with
 | zero=>intro t v h;exact h.elim
 | succ n A=>intro t v h;obtain⟨b,u,r,B,k,y,a,z,s,q,cap,rfl,p,m⟩:=h;have e:(Kd.kids (fQ (n+1) (n+1) t)).length=(Kd.kids t).length:=List.length_map ..;refine⟨b,u,r,_,k,y,a,z,s,q,cap,by rw[e],by rw[e];exact p,fun f=>?_⟩;obtain⟨g,off,o,l,d⟩:=m (fun h=>f (by show (Kd.kids t).map (fQ n n)=[];rw[h];rfl));refine⟨g,off,o,l,fun i hi=>?_⟩;obtain⟨c,x,j⟩:=d i (by rw[<- e];exact hi);refine⟨c,x,?_⟩;have:(Kd.kids (fQ (n+1) (n+1) t))[i]=fQ n n ((Kd.kids t)[i]'(by rw[<- e];exact hi)):=List.getElem_map ..;rw[this];exact A j
theorem d8.dn:∀ {n:Nat} {L:Nat} {t:K n} {d:Int} {v:Zv},fK n t d=true->6-d<=(L:Int)->d8 S w n t v->d8 S w (L+1) (fQ L n t) v:=by
 intro n;induction n with
 | zero=>intro L t;exact Empty.elim (show Empty from t)
 | succ n E=>
  intro L t d v k J h;obtain⟨H,I,q⟩:=ic k;obtain⟨b,o,s,M,m,y,a,z,u,p,cap,rfl,G,A⟩:=h;cases L with
  | zero=>
   have l:Kd.kids t=[]:=by
    cases l:Kd.kids t with
    | nil=>rfl
    | cons x r=>
     have C:=q x (by rw[l];exact List.mem_cons_self ..);cases n with
     | zero=>exact Empty.elim (show Empty from x)
     | succ n=>have:=(ic C).1;omega
   exact⟨b,o,s,_,m,y,a,z,u,p,cap,by rw[l];rfl,by show ([]:List (K 0)).length<=maxLen;simp,fun f=>absurd rfl f⟩
  | succ L=>have e:(Kd.kids (fQ (L+1) (n+1) t)).length=(Kd.kids t).length:=List.length_map ..;refine⟨b,o,s,_,m,y,a,z,u,p,cap,by rw[e],by rw[e];exact G,fun f=>?_⟩;obtain⟨g,off,B,k,j⟩:=A (fun h=>f (by show (Kd.kids t).map (fQ L n)=[];rw[h];rfl));refine⟨g,off,B,k,fun i hi=>?_⟩;obtain⟨c,D,F⟩:=j i (by rw[<- e];exact hi);refine⟨c,D,?_⟩;have:(Kd.kids (fQ (L+1) (n+1) t))[i]=fQ L n ((Kd.kids t)[i]'(by rw[<- e];exact hi)):=List.getElem_map ..;rw[this];exact E (q _ (List.getElem_mem _)) om F
theorem d8.okd{L:Nat}{t:K n}(h:gV n t=true)(b:5<=L)(a:d8 S w n t v):d8 S w (L+1) (fQ L n t) v:=
 a.dn (ie h).1 om
theorem F0{a b:List ByteArray}(r:fL S w a v)(x:fL S' w b v):a=b:=by obtain⟨A,cap,rfl,-,-,p⟩:=r;obtain⟨s,m,e,-,-,d⟩:=x;injection e with c q C;refine List.ext_getElem q fun i h l=>?_;obtain⟨g,o,t,-,u⟩:=p (fun k=>by rw[k]at h;simp at h);obtain⟨z,B,j,-,f⟩:=d (fun k=>by rw[k]at l;simp at l);rw[t,j]at c;injection c with c;injection c with n y;subst n;subst y;have:=(u i h).symm.trans (f i l);injection this with this;injection this
theorem d8.one:∀ {n:Nat} {a b:K n} {v:Zv},d8 S w n a v->d8 S' w n b v->a=b:=by
 intro n;induction n with
 | zero=>intro a b v h;exact h.elim
 | succ n G=>
  intro a b v h k;obtain⟨g,U,pv,Y,rfl,-,j,N,-,Z,cap,rfl,-,y⟩:=h;obtain⟨Q,B,z,A,e,-,d,m,-,J,u,rfl,-,p⟩:=k;injection e with e;injection e with e;injection e with e;subst e;have f:=j.symm.trans d;injection f with f;injection f with f;have f:=congrArg Array.toList f;simp only[List.cons.injEq,Value.int.injEq,Value.slice.injEq,true_and,and_true]at f;obtain⟨D,M,-,l,O,-⟩:=f;subst M;have I:=F0 N m;have H:Kd.kids a=Kd.kids b:=by refine List.ext_getElem O fun i h k=>?_;obtain⟨V,T,L,-,C⟩:=y (fun o=>by rw[o]at h;simp at h);obtain⟨W,R,t,-,s⟩:=p (fun o=>by rw[o]at k;simp at k);rw[L,t]at l;injection l with l;injection l with x F;subst x;subst F;obtain⟨c,q,r⟩:=C i h;obtain⟨X,E,P⟩:=s i k;have:=q.symm.trans E;injection this with this;subst this;exact G r P
  cases a;cases b
  cases D;cases I;cases H
  rfl
theorem vL{k:K (n+1)}(ok:gV (n+1) k=true)(b:Kd.sort k=4∨Kd.sort k=6):∃x,Kd.kids k=[x]:=by
 have a:fW (Kd.sort k) (Kd.names k) (Kd.kids k).length=true:=(ic (ie ok).1).2.1;unfold fW at a;refine List.length_eq_one_iff.1 ?_;rcases b with c|d;·rw[c]at a;simp at a;omega
 ·rw[d]at a;simp at a;omega
theorem d8.within {M:Nat} {k:K (M+1)} {b:Nat} (h:d8 S w (M+1) k (Zp (Zo ⟨b,0,Zn⟩))) (ok:gV (M+1) k=true) (s:Kd.sort k=4∨Kd.sort k=6) :
  gV (M+1) (mN k)=true/\∃g o cap l,w.cell? ⟨b,3,Zn⟩=Zo (.slice (Zo ⟨g,o,Zn⟩) 1 cap)/\w.cell? ⟨g,o,Zn⟩=Zo (Zp (Zo ⟨l,0,Zn⟩))/\d8 S w (M+1) (mN k) (Zp (Zo ⟨l,0,Zn⟩)):=by
 obtain⟨x,d⟩:=vL ok s;have e:mN k=fQ M M x:=by unfold mN;rw[d]
 obtain⟨u,v,B,z,a,D,f,E,C,A,cap,rfl,y,q⟩:=h;injection a with a;injection a with a;injection a with a;subst a;obtain⟨g,off,rfl,t,m⟩:=q (by rw[d];simp);obtain⟨c,r,n⟩:=m 0 (by rw[d];simp);have i:d8 S w M x c:=by
  have:(Kd.kids k)[0]'(by rw[d];simp)=x:=by simp[d]
  rw[this]at n;exact n
 obtain⟨l,rfl,-⟩:=i.ptr;refine⟨?_,g,off,cap,l,?_,by simpa using r,by rw[e];exact i.up⟩;·have j:=pn ok x (by rw[d];simp);have p:=pF M x;rw[e];unfold gV at j ⊢;rw[p.1,p.2.1];exact j
 ·rw[(kP f).2.2.2,d];rfl
set_option maxRecDepth 100000
set_option maxHeartbeats 16000000
theorem Tryz.info_akS:(prog.info? 118).map (fun i=>i.size)=Zo 4:=by kernel_rfl
theorem H2(p:Nat)(w:Zw):(binOp .eql 82 (Zp (Zo ⟨p,0,Zn⟩)) (Zp (Zo ⟨p,0,Zn⟩))).run prog w=.ok (Zb true) w:=by obtain⟨j,a,-⟩:=Option.map_eq_some_iff.1 Tryz.info_akS;exact run_eql_ptr_same w _ underlying82 a
theorem FP {q:Nat} {ca b:Array Zv} (a:p≠q) (f:w.heap[p]?=Zo (Zc ca 118 (0,0))) (d:w.heap[q]?=Zo (Zc b 118 (0,0))) :
  (binOp .eql 82 (Zp (Zo ⟨p,0,Zn⟩)) (Zp (Zo ⟨q,0,Zn⟩))).run prog w=.ok (Zb false) w:=by obtain⟨j,g,c⟩:=Option.map_eq_some_iff.1 Tryz.info_akS;exact run_eql_ptr_other w underlying82 g (by rw[c];decide) (fun e=>a (by injection e)) f d
theorem rg{a:K n}(h:d8 S w n a (Zp (Zo ⟨p,0,Zn⟩))):∃ca,w.heap[p]?=Zo (Zc ca 118 (0,0)):=by
 cases n with
 | zero=>exact h.elim
 | succ n=>obtain⟨e,f,d,i,b,g,c,-⟩:=h;injection b with b;injection b with b;injection b with b;subst b;exact⟨_,c⟩
theorem qr(p:Nat)(w:Zw):Calls prog 161 #[Zp (Zo ⟨p,0,Zn⟩),Zp (Zo ⟨p,0,Zn⟩)] w fun e d=>e=Zr (Zb true)/\Bw w d:=by have a:Bw w w.drew:=(Below.refl _ _).drew;have c:=H2 p;go_in;go_upto_region 1 with fail;refine wp_region_held_drew (S:=fun _=>True) zK trivial (fun hHeld=>?_);generalize w.drew=V at *;refine tk 0 ?_;refine tk 1 ?_;refine tk 2 ?_;refine tk 3 ?_;refine ts 4 ?_;refine ts 5 ?_;refine ts 6 ?_;refine ts 7 ?_;refine ts 8 ?_;refine ts 9 ?_;refine ts 10 ?_;refine tk 11 ?_;refine tk 12 ?_;refine wpAnyH_done zK ?_ _;go_simp;go_wp2;go_ret;exact⟨rfl,a⟩
theorem pS (n:Nat) (S:Nat->Prop) (a b:K n) (r s:Nat) (w:Zw) (O:d8 S w n a (Zp (Zo ⟨r,0,Zn⟩))) (hb:d8 S w n b (Zp (Zo ⟨s,0,Zn⟩))) (D:Bd S w) (E:gV n a=true) (L:gV n b=true) (T:r≠s) :
  Calls prog 161 #[Zp (Zo ⟨r,0,Zn⟩),Zp (Zo ⟨s,0,Zn⟩)] w fun e l=>e=Zr (Zb (d9 n a==d9 n b))/\Bw w l:=by
 have q:Bw w w.drew:=(Below.refl _ _).drew;obtain⟨M,g2⟩:=ie E;obtain⟨N,g4⟩:=ie L;have P:=nM n a 1 M;have Z:=nM n b 1 N;have X:Hid (∀V,Bw w V->Calls prog 197 #[.slice Zn 0 0,Zp (Zo ⟨r,0,Zn⟩)] V fun e l=>∃p,e=Zr p/\iR V.heap.size V l p (d9 n a)/\Bw V l):=fun V y=>by refine (nK n V.heap.size V V (.slice Zn 0 0) [] a _ 1 (iR.nil (Nat.le_refl _)) (O.keep (a6 y D) fun x Q=>Nat.lt_of_lt_of_le (D x Q) y.size) M g2 zE).mono ?_;rintro e l ⟨p,rfl,h⟩;rw[List.nil_append]at h;exact⟨p,rfl,h,h.below⟩
 have H:Hid (∀V,Bw w V->Calls prog 197 #[.slice Zn 0 0,Zp (Zo ⟨s,0,Zn⟩)] V fun e l=>∃p,e=Zr p/\iR V.heap.size V l p (d9 n b)/\Bw V l):=fun V y=>by refine (nK n V.heap.size V V (.slice Zn 0 0) [] b _ 1 (iR.nil (Nat.le_refl _)) (hb.keep (a6 y D) fun x Q=>Nat.lt_of_lt_of_le (D x Q) y.size) N g4 zE).mono ?_;rintro e l ⟨p,rfl,h⟩;rw[List.nil_append]at h;exact⟨p,rfl,h,h.below⟩
 have I:Hid (d9 n a≠[]):=B0 n a 1 M;have G:Hid (d9 n b≠[]):=B0 n b 1 N;obtain⟨ca,A⟩:=rg O;obtain⟨U,B⟩:=rg hb;have R:∀W:Zw,W.heap[r]?=Zo (Zc ca 118 (0,0))/\W.heap[s]?=Zo (Zc U 118 (0,0))->(binOp .eql 82 (Zp (Zo ⟨r,0,Zn⟩)) (Zp (Zo ⟨s,0,Zn⟩))).run prog W=.ok (Zb false) W:=fun W h=>FP T h.1 h.2;have F:=(ZF.1 A).1;have J:=(ZF.1 B).1;have f:Hid (∀V,Bw w V->V.heap[r]?=Zo (Zc ca 118 (0,0))/\V.heap[s]?=Zo (Zc U 118 (0,0))):=fun V y=>⟨(y.block r F).trans A,(y.block s J).trans B⟩;have C:∀x:List UInt8,(bs x).toList=x:=fun x=>by rw[ByteArray.toList_eq];rfl
 have m:Hid (((bs (d9 n a)).toList==(bs (d9 n b)).toList)=(d9 n a==d9 n b)):=by show _=_;rw[C,C]
 clear C;clear O hb D E L M g2 N g4 P Z A B;go_in;go_upto_region 1 with fail;refine wp_region_held_drew (S:=fun l=>l.heap[r]?=Zo (Zc ca 118 (0,0))/\l.heap[s]?=Zo (Zc U 118 (0,0))) zK (f.out _ q) (fun hHeld=>?_);generalize w.drew=V at *;refine tk 0 ?_;refine tk 1 ?_;refine tk 2 (v:=Zb false) (hy:=fun wq hq=>by have:=R wq hq;go_simp) ?_;refine tk 3 ?_;refine tk 4 ?_;refine tk 7 ?_;refine iT 5 fun K hK=>?_;go_simp;go_at_call 197;refine (X.out V q).mono ?_;rintro e w1 ⟨v1,rfl,c,Y⟩;have j:=q.trans (Y.mono q.size);obtain⟨va,vn,vc,rfl⟩:=c.shape;refine hK.out _ _ (f.out _ j) (fun hHeld=>?_);clear hK K;have k:=a7 c;have o:=kV _ _ _ _ _ c I.out;clear c;refine wpAnyH_ready (rs:=[6,8]) zK zS ?_;refine AllReadyH.cons rfl (fun K hK=>?_) (AllReadyH.cons rfl (fun K hK=>?_) AllReadyH.nil);·go_simp;refine hK.out _ _ (f.out _ j) (fun hHeld=>?_);clear hK K o;refine iT 8 fun K hK=>?_;go_simp;go_at_call 197;refine (H.out w1 j).mono ?_;rintro e w2 ⟨v2,rfl,c,i⟩;have d:=j.trans (i.mono j.size);obtain⟨ua,un,uc,rfl⟩:=c.shape;refine hK.out _ _ (f.out _ d) (fun hHeld=>?_);clear hK K;have o:=kV _ _ _ _ _ c G.out;refine iT 9 fun K hK=>?_;go_simp;refine hK.out _ _ (f.out _ d) (fun hHeld=>?_);clear hK K o c;refine tk 10 ?_;refine tk 11 ?_;refine tk 12 ?_;refine wpAnyH_done zK ?_ _;go_simp;go_wp2;go_ret;exact⟨b6 m.out,d⟩
 ·clear o;go_simp;go_at_call 197;refine (H.out w1 j).mono ?_;rintro e w2 ⟨v2,rfl,c,i⟩;have d:=j.trans (i.mono j.size);have z:iR V.heap.size V w2 (.slice va vn vc) (d9 n a):=⟨gg k.out.own fun g hg=>i.block g (fR k.out.own g hg).2,k.out.below.trans (i.mono k.out.le),Nat.le_trans k.out.le i.size,k.out.kept.trans c.kept⟩;obtain⟨ua,un,uc,rfl⟩:=c.shape;refine hK.out _ _ (f.out _ d) (fun hHeld=>?_);clear hK K;have t:=kV _ _ _ _ _ z I.out;have u:=kV _ _ _ _ _ c G.out;clear z c;refine wpAnyH_ready (rs:=[6,9]) zK zS ?_;refine AllReadyH.cons rfl (fun K hK=>?_) (AllReadyH.cons rfl (fun K hK=>?_) AllReadyH.nil);·go_simp;refine hK.out _ _ (f.out _ d) (fun hHeld=>?_);clear hK K t;refine iT 9 fun K hK=>?_;go_simp;refine hK.out _ _ (f.out _ d) (fun hHeld=>?_);clear hK K u;refine tk 10 ?_;refine tk 11 ?_;refine tk 12 ?_;refine wpAnyH_done zK ?_ _;go_simp;go_wp2;go_ret;exact⟨b6 m.out,d⟩
  ·go_simp;refine hK.out _ _ (f.out _ d) (fun hHeld=>?_);clear hK K u;refine iT 6 fun K hK=>?_;go_simp;refine hK.out _ _ (f.out _ d) (fun hHeld=>?_);clear hK K t;refine tk 10 ?_;refine tk 11 ?_;refine tk 12 ?_;refine wpAnyH_done zK ?_ _;go_simp;go_wp2;go_ret;exact⟨b6 m.out,d⟩
theorem ls {a b:K n} {c d:Nat} (k:d8 S w n a (Zp (Zo ⟨c,0,Zn⟩))) (j:d8 S w n b (Zp (Zo ⟨d,0,Zn⟩))) (l:Bd S w) (g:gV n a=true) (i:gV n b=true) :
  Calls prog 161 #[Zp (Zo ⟨c,0,Zn⟩),Zp (Zo ⟨d,0,Zn⟩)] w fun e f=>e=Zr (Zb (d9 n b==d9 n a))/\Bw w f:=by
 by_cases h:c=d;·subst h;have e:=k.one j;subst e;refine (qr c w).mono ?_;rintro e f ⟨rfl,h⟩;exact⟨b6 zS,h⟩
 ·refine (pS n S a b c d w k j l g i h).mono ?_;rintro e f ⟨rfl,h⟩;exact⟨b6 (by rw[Bool.eq_iff_iff];simp only[beq_iff_eq];exact⟨Eq.symm,Eq.symm⟩),h⟩
def nE:(n:Nat)->K n->Bool
 | 0,_=>true
 | n+1,t=>lq (show Kd (K n) from t) && (Kd.kids t).all (nE n)
theorem FX{t:K (n+1)}(h:nE (n+1) t=true):fW (Kd.sort t) (Kd.names t) (Kd.kids t).length=true/\∀x,x∈Kd.kids t->nE n x=true:=by simp only[nE,Zq,List.all_eq_true]at h;exact h
theorem CH:∀ {n:Nat} {t:K n} {d:Int},fK n t d=true->nE n t=true:=by
 intro n;induction n with
 | zero=>intro t d _;rfl
 | succ n e=>intro t d h;obtain⟨-,a,b⟩:=ic h;simp only[nE,Zq,List.all_eq_true];exact⟨a,fun x c=>e (b x c)⟩
theorem E8(v:Zv)(d:∃a,v=Zp a)(w:Zw):Calls prog 170 #[v] w fun e c=>e=Zr (Zb true)/\Bw w c:=by obtain⟨a,rfl⟩:=d;have b:=Below.refl w.heap.size w;go_in;go_wp2;go_ret;exact⟨rfl,b⟩
theorem EX (a:Option Addr) (b n m:Nat) (d p:Int) (w:Zw) (c:GQ w b n m p 40 170) (s:0<=p) (t:p<=40) :
  Calls prog 206 #[Zp a,.int .i64 d,Zp (Zo ⟨b,0,Zn⟩),Zp (Zo ⟨n,0,Zn⟩),Zp (Zo ⟨m,0,Zn⟩)] w
   fun e i=>e=Zr (Zb (decide (p+1<=40) && decide (d<=6)))/\la i b (p+1)/\b7 b w i:=by
 have r:=c.parts.lt;have f:b7 b w (w.setCell ⟨b,0,Zn⟩ (.int .i64 (p+1))):=b7.set b 0 _ (.int .i64 (p+1));have g:la (w.setCell ⟨b,0,Zn⟩ (.int .i64 (p+1))) b (p+1):=c.parts.set (p+1);have l:Hid (Calls prog 170 _ _ _):=E8 (Zp a) ⟨_,rfl⟩ (w.setCell ⟨b,0,Zn⟩ (.int .i64 (p+1)));have c0:=c.parts.cell;have f0:=c.parts.free;have v:=c.max;have a0:=c.acc;have nm:=c.nm;have u:=c.na;clear c;by_cases q:p+1<=40
 ·by_cases o:d<=6;·go_in;go_wp2_with fail;refine l.out.mono ?_;rintro e i ⟨rfl,h⟩;have j:la i b (p+1):=(h.block b (by simp<;>omega)).trans g;have k:=f.trans (b7.of_below (bb:=b) h);clear h l;go_wp2;go_ret;exact⟨b6 (by simp[q,o]),j,k⟩
  ·go_in;go_wp2;go_ret;exact⟨b6 (by rw[decide_eq_false (show ¬d<=6 by omega)]),g,f⟩
 ·go_in;go_wp2;go_ret;exact⟨b6 (by rw[decide_eq_false (show ¬p+1<=40 by omega)];simp),g,f⟩
def Jm(c a b:Nat):Zv:=.func (.func 206) #[] #[Zp (Zo ⟨c,0,Zn⟩),Zp (Zo ⟨a,0,Zn⟩),Zp (Zo ⟨b,0,Zn⟩)]
def qM(n:Nat):Prop:=∀(S:Nat->Prop)(t:K n)(v:Zv)(d p:Int)(a e c:Nat)(w:Zw),d8 S w n t v->nE n t=true->(∀b,S b->b<w.heap.size/\b≠a)->GQ w a e c p 40 170->0<=p->p<=40->1<=d->d<=7 ->
 Calls prog 205 #[v,.int .i64 d,Jm a e c] w (kd n t d p a w)
theorem Dd(b:Nat)(c:Zv)(w:Zw)(f:w.cell? ⟨b,3,Zn⟩=Zo c):Calls prog 287 #[Zp (Zo ⟨b,0,Zn⟩)] w fun e d=>e=Zr c/\Bw w d:=by have a:=Below.refl w.heap.size w;go_in;go_wp2;go_ret;exact⟨rfl,a⟩
theorem AE(n:Nat)(hn:qM n):qM (n+1):=by
 intro S t v d p z mb ab w ht X hB o aj ag am an;obtain⟨b0,nv,pv,kv,rfl,af,a,-,-,N⟩:=ht;obtain⟨ka,kc,rfl,Y,m⟩:=N;obtain⟨T,F⟩:=FX X;unfold maxLen at Y;have g:=o.parts.lt;have R:=hB b0 af;have c3:=(kP a).2.2.2;have W:Hid (Calls prog 206 _ _ _):=EX (Zo ⟨b0,0,Zn⟩) z mb ab d p w o aj ag;have aa:=a7 F;have ae:=a7 T;unfold Jm;clear a X F T;go_in;go_wp2_with fail;refine W.out.mono ?_;rintro e w1 ⟨rfl,I,u⟩;have J:=o.keep u I;have aq:=u.size;have P:=u.cell c3 R.2;clear W;generalize y:(decide (p+1<=40) && decide (d<=6))=ok;cases ok with
 | false=>
  have Z:Hid (kd (n+1) t d p z w (Zr (Zb false)) w1):=by
   refine⟨u,false,rfl,fun h=>(by cases h),fun _=>?_⟩;rintro ⟨U,hc⟩;simp only[fK,Zq,decide_eq_true_eq]at U;have:p+1<=40:=by simp only[fP]at hc;omega
   rw[decide_eq_true U.1.1,decide_eq_true this]at y;cases y
  clear y;go_wp2;go_ret;exact Z.out
 | true=>
  simp only[Zq,decide_eq_true_eq]at y;have ai:Hid ((decide (d<=6) && lq (show Kd (K n) from t))=true):=by show (_ && fW (Kd.sort t) _ _)=_;rw[ae.out,decide_eq_true y.2];rfl
  obtain⟨ak,ao⟩:=y;go_wp2_with fail;refine (Dd b0 _ w1 P).mono ?_;rintro e w2 ⟨rfl,E⟩;have Q:b7 z w w2:=u.trans (b7.of_below E);have ad:la w2 z (p+1):=I.keep E;have ap:=E.size;clear E J u I c3 P;go_wp2;go_loopw [18] (fun i wr=>∃ k:Nat,k<=(Kd.kids t).length/\i=.int .i64 k/\b7 z w2 wr/\la wr z (p+1+(b5 (fun x=>fP n x) ((Kd.kids t).take k):Int)) /\
    p+1+(b5 (fun x=>fP n x) ((Kd.kids t).take k):Int)<=40/\((Kd.kids t).take k).all (fun x=>fK n x (d+1))=true) (fun i _=>(Kd.kids t).length-(intOf i).toNat)
  case atStart=>exact⟨0,Nat.zero_le _,rfl,b7.refl _ _,by simpa [b5] using ad,by simpa [b5] using ak,zS⟩
  case round=>
   obtain⟨k,hk,rfl,M,l,c,G⟩:=hrel;have f:=a7 G;clear G;have ar:=M.size;have j:=Q.trans M;have al:=l.lt;by_cases g:k<(Kd.kids t).length
   ·obtain⟨b,off,rfl,ah,a⟩:=m (by intro h;rw[h]at g;simp at g);obtain⟨x0,e0,hr⟩:=a k g;have ac:=hB b ah;have f0:=j.cell e0 ac.2;have q:=hr.keep (j.same (fun b hb=>by have:=hB b hb;omega)) (fun _ h=>h);obtain⟨xb,rfl,-⟩:=q.ptr;have C:=o.keep j l;have W:Hid (Calls prog 205 _ _ _):=hn S (Kd.kids t)[k] _ (d+1) _ z mb ab wr q (aa.out _ (List.getElem_mem g)) (fun b hb=>by have:=hB b hb;omega) C om c om om;have B:=@uT n t d p k g;have s:Hid (b5 (fun x=>fP n x) ((Kd.kids t).take (k+1))=b5 (fun x=>fP n x) ((Kd.kids t).take k)+fP n (Kd.kids t)[k]):=fY _ _ _ g;clear q C m a e0 hr;unfold Jm at W;go_wp2_with fail;refine W.out.mono ?_;rintro e w3 ⟨L,r,rfl,A,H⟩;have D:=M.trans L;cases r with
    | false=>have Z:Hid (kd (n+1) t d p z w (Zr (Zb false)) w3):=⟨Q.trans D,false,rfl,fun h=>(by cases h),fun _=>B (H rfl)⟩;clear B H A s f L D j;go_wp2;go_ret;exact Z.out
    | true=>
     obtain⟨U,hc,O⟩:=A rfl;have HR:Hid (b7 z w2 w3/\la w3 z (p+1+(b5 (fun x=>fP n x) ((Kd.kids t).take (k+1)):Int))/\p+1+(b5 (fun x=>fP n x) ((Kd.kids t).take (k+1)):Int)<=40/\((Kd.kids t).take (k+1)).all (fun x=>fK n x (d+1))=true):=by
      refine⟨D,?_,?_,jV k g f.out U⟩;·rw[s.out,show p+1+((b5 (fun x=>fP n x) ((Kd.kids t).take k)+fP n (Kd.kids t)[k]:Nat):Int)=p+1+(b5 (fun x=>fP n x) ((Kd.kids t).take k):Int)+(fP n (Kd.kids t)[k]:Int) by omega];exact O
      ·rw[s.out];omega
     clear B H A s f L D j U hc O l c;go_wp2;go_roundw;case rel=>exact⟨k+1,om,by go_num,HR.out.1,HR.out.2.1,HR.out.2.2.1,HR.out.2.2.2⟩
     case measure=>simp[intOf];omega
   ·have V:k=(Kd.kids t).length:=by omega
    have Z:Hid (kd (n+1) t d p z w (Zr (Zb true)) wr):=by
     have h1:=f.out;rw[V,List.take_length]at h1 l c;have e:p+1+(b5 (fun x=>fP n x) (Kd.kids t):Int)=p+(fP (n+1) t:Int):=by simp only[fP];omega
     rw[e]at l c;exact⟨j,true,rfl,fun _=>⟨by have:=ai.out;simp only[fK,this,h1,Bool.and_self],c,l⟩,fun h=>(by cases h)⟩
    clear V m f j l c;go_wp2;go_ret;exact Z.out
theorem C9:∀n,qM n:=by
 intro n;induction n with
 | zero=>intro S t v d p f e c w a;exact a.elim
 | succ n b=>exact AE n b
theorem C7 (n:Nat) (S:Nat->Prop) (t:K n) (v:Zv) (w:Zw) (k:d8 S w n t v) (i:nE n t=true) (m:Bd S w) :
  Calls prog 169 #[v,.int .i64 40,.func (.func 170) #[] #[]] w fun e s=>e=Zr (Zb (gV n t))/\Bw w s:=by
 have q:∀(l:Fn)(first cap:Array Zv)(w:Zw),(Instr.makeFunc l first cap).run prog w=.ok (.func l first cap) w:=fun _ _ _ _=>rfl;obtain⟨y,rfl,-⟩:=k.ptr;have f:Bw w (((w.alloc (Zc #[.int .i64 40] 3)).alloc (Zc #[.func (.func 170) #[] #[]] 191)).alloc (Zc #[.int .i64 0] 3)):=
  ((gF _ _).alloc zS _).alloc zE _
 have d:=k.keep (a6 f m) (fun _ h=>h);have g:Hid (Calls prog 205 _ _ _):=C9 n S t _ 1 0 (w.heap.size+1+1) w.heap.size (w.heap.size+1) _ d i (fun b f=>by have:=m b f;simp;omega)
  ⟨by rw[show w.heap.size+1+1=((w.alloc (Zc #[.int .i64 40] 3)).alloc (Zc #[.func (.func 170) #[] #[]] 191)).heap.size by simp];exact la.new _ 0,
   by simp[go_sem],by simp[go_sem],om,om⟩ om om om om
 unfold Jm at g;clear k d;go_in;go_wp2_with fail;refine g.out.mono ?_;rintro e w1 ⟨o,r,rfl,a,c⟩;have j:Bw w w1:=f.trans (o.below om zE);have x:r=gV n t:=by
  cases r with
  | true=>obtain⟨p,u,-⟩:=a rfl;unfold gV;rw[p,decide_eq_true om];rfl
  | false=>symm;rw[Bool.eq_false_iff];intro h;simp only[gV,Zq,decide_eq_true_eq]at h;exact c rfl ⟨h.1,om⟩
 clear a c o f g;go_wp2;go_ret;exact⟨rfl,j⟩
theorem sS (n:Nat) (S:Nat->Prop) (t:K n) (v:Zv) (w:Zw) (c:d8 S w n t v) (b:nE n t=true) (h:Bd S w) :
  Calls prog 133 #[v] w fun e g=>e=Zr (Zb (gV n t))/\Bw w g:=by have i:∀(f:Fn)(first cap:Array Zv)(w:Zw),(Instr.makeFunc f first cap).run prog w=.ok (.func f first cap) w:=fun _ _ _ _=>rfl;obtain⟨j,rfl,-⟩:=c.ptr;have d:Hid (Calls prog 169 _ _ _):=C7 n S t _ w c b h;clear c;go_in;go_wp2_with fail;refine d.out.mono ?_;rintro e w1 ⟨rfl,a⟩;clear d;go_wp2;go_ret;exact⟨rfl,a⟩
end Go.Proofs.YtcfojmaccikgeaaGreatDoor
