import Derived.Test.YtcfojmaccikgeaaGreatDoorB28
import Derived.Test.YtcfojmaccikgeaaGreatDoorB25
open Go.Value renaming pointer→Zp
open Go.Ending renaming returned→Zr
open Option renaming none→Zn,some→Zo
open Go renaming World→Zw,Value→Zv
namespace Go.Proofs.YtcfojmaccikgeaaGreatDoor
open Go.RowKit Go.WideMaps Go.Maps Go.Proofs.Tryz
variable {v:Zv} {S S':ZP} {w w':Zw} {M:Nat}
def ot(v:Zv):Option (DataW Unit×List MemPlace):=
 match v with
 | Zp (Zo ⟨b,0,Zn⟩)=>Zo (.lit (.int .i64 (b:Int)),[])
 | Zp Zn=>Zo (.lit (.int .i64 (-1)),[])
 | _=>Zn
theorem tL{z:DataW Unit×List MemPlace}(h:ot v=Zo z):(v=Zp Zn/\z.1=.lit (.int .i64 (-1)))∨∃b:Nat,v=Zp (Zo ⟨b,0,Zn⟩)/\z.1=.lit (.int .i64 (b:Int)):=by
 unfold ot at h;split at h;·cases h;exact .inr ⟨_,rfl,rfl⟩
 ·cases h;exact .inl ⟨rfl,rfl⟩
 ·cases h
def o6:List (ZN×Nat)->DataW Unit
 | []=>.map []
 | p :: r=>(o6 r).put (.string p.1.data.toList) (.lit (.int .i64 (p.2:Int)))
def rj:List (ZN×Nat)->ZN->Option Nat
 | [],_=>Zn
 | p :: r,x=>if p.1=x then Zo p.2 else rj r x
theorem BO:∀l,IsMap (o6 l):=by
 intro l;induction l with
 | nil=>exact⟨_,rfl⟩
 | cons p r a=>exact a.put _ _
theorem IW(s:ZN):∀l,rj l s=Zn->has (o6 l) (.string s.data.toList)=false:=by
 intro l;induction l with
 | nil=>intro _;rfl
 | cons p r a=>
  intro h;unfold rj at h;split at h;·cases h
  ·next hne=>
   rw[o6,has_put_other (wJ (fun e=>hne e.symm))];exact a h
theorem G3(s:ZN)(b:Nat):∀l,rj l s=Zo b->has (o6 l) (.string s.data.toList)=true/\∀z,(o6 l).atKey (.string s.data.toList) z=.lit (.int .i64 (b:Int)):=by
 intro l;induction l with
 | nil=>intro h;cases h
 | cons p r d=>
  intro h;unfold rj at h;split at h
  ·next he=>
   cases h
   subst he;exact⟨has_put_same (BO r) (su _) _,fun z=>atKey_put_same (BO r) (su _) _ z⟩
  ·next hne=>
   have c:=wJ (a:=s) (b:=p.1) (fun e=>hne e.symm);have:=d h;exact⟨by rw[o6,has_put_other c];exact this.1,fun z=>by rw[o6,atKey_put_other c];exact this.2 z⟩
def sC(S:ZP)(w:Zw)(M:Nat):jE M->List (ZN×Nat)->Prop
 | [],[]=>True
 | p :: r,q :: r'=>p.1=q.1/\b9 S w (M+1) p.2 (Zp (Zo ⟨q.2,0,Zn⟩))/\sC S w M r r'
 | _,_=>False
theorem sC.keep(c:jn S w w')(a:∀b,S b->S' b):∀ {e:jE M} {l:List (ZN×Nat)},sC S w M e l->sC S' w' M e l:=by
 intro e;induction e with
 | nil=>intro l h;cases l with|nil=>exact h|cons p r=>exact h
 | cons p r d=>
  intro l h;cases l with
  | nil=>exact h
  | cons q f=>exact⟨h.1,h.2.1.keep c a,d h.2.2⟩
theorem sC.at(s:ZN):∀ {e:jE M} {l:List (ZN×Nat)},sC S w M e l->(iX e s=Zn/\rj l s=Zn)∨∃k b,iX e s=Zo k/\rj l s=Zo b/\b9 S w (M+1) k (Zp (Zo ⟨b,0,Zn⟩)):=by
 intro e;induction e with
 | nil=>intro l h;cases l with|nil=>exact .inl ⟨rfl,rfl⟩|cons p r=>exact h.elim
 | cons p r g=>
  intro l h;cases l with
  | nil=>exact h.elim
  | cons q o=>
   obtain⟨c,d,f⟩:=h;obtain⟨i,j⟩:=p;obtain⟨n,m⟩:=q;have c:=c;subst c;unfold iX rj;by_cases a:i=s;·exact .inr ⟨j,m,if_pos a,if_pos a,d⟩
   ·rw[if_neg a,if_neg a];exact g f
def oE(S:ZP)(w:Zw)(M:Nat)(fr:jE M)(v:Zv):Prop:=
 ∃a l n,v=.map (Zo a)/\S a/\w.ownsMap prog 9 ot a n (o6 l)/\sC S w M fr l
theorem oE.keep{fr:jE M}(h:oE S w M fr v)(e:jn S w w')(d:∀b,S b->S' b):oE S' w' M fr v:=by obtain⟨c,l,n,rfl,f,⟨g,a,i,j⟩,k⟩:=h;exact⟨c,l,n,rfl,d c f,⟨g,a,by rw[e c f];exact i,j⟩,k.keep e d⟩
def gG(S:ZP)(w:Zw)(M:Nat):Nat->jE M->Zv->Prop
 | 0,env,v=>env=[]/\v=Zp Zn
 | n+1,env,v=>∃b o mv fr rest,env=fr++rest/\v=Zp (Zo ⟨b,0,Zn⟩)/\S b/\w.heap[b]?=Zo (.cells #[Zp o,mv] 131 (0,0))/\(∀a,o=Zo a->a.block<b)/\oE S w M fr mv/\gG S w M n rest (Zp o)
theorem gG.keep(d:jn S w w')(c:∀b,S b->S' b):∀ {n:Nat} {env:jE M} {v:Zv},gG S w M n env v->gG S' w' M n env v:=by
 intro n;induction n with
 | zero=>intro env v h;exact h
 | succ n m=>intro env v h;obtain⟨a,o,mv,fr,rest,g,l,e,f,j,i,k⟩:=h;exact⟨a,o,mv,fr,rest,g,l,c a e,by rw[d a e];exact f,j,i.keep d c,m k⟩
theorem gG.ptr{n:Nat}{env:jE M}(h:gG S w M n env v):(env=[]/\v=Zp Zn)∨∃a,v=Zp (Zo ⟨a,0,Zn⟩)/\S a:=by
 cases n with
 | zero=>exact .inl h
 | succ n=>obtain⟨a,o,mv,fr,rest,-,c,b,-⟩:=h;exact .inr ⟨a,c,b⟩
theorem Hh(s:ZN):∀(a b:jE M),iX (a++b) s=match iX a s with|Zo k=>Zo k|Zn=>iX b s:=by
 intro a b;induction a with
 | nil=>rfl
 | cons p r d=>
  obtain⟨x,k⟩:=p;have c:∀(l:jE M),iX ((x,k) :: l) s=if x=s then Zo k else iX l s:=fun _=>rfl
  rw[List.cons_append,c,c];by_cases h:x=s;·rw[if_pos h,if_pos h]
  ·rw[if_neg h,if_neg h];exact d
theorem zW(w:Zw):(zeroValue 82).run prog w=.ok (Zp Zn) w:=by kernel_rfl
theorem oE.look {fr:jE M} (h:oE S w M fr v) (s:ZN) (r:s.size<=maxLen) :
  (iX fr s=Zn/\∃c,(Instr.lookup 129 v (.string s) true).run prog w=.ok (.tuple #[Zp c,.bool false]) w) ∨
  ∃k b,iX fr s=Zo k/\b9 S w (M+1) k (Zp (Zo ⟨b,0,Zn⟩))/\(Instr.lookup 129 v (.string s) true).run prog w=.ok (.tuple #[Zp (Zo ⟨b,0,Zn⟩),.bool true]) w:=by
 obtain⟨t,l,n,rfl,-,d,q⟩:=h;obtain⟨c,u,a,j⟩:=d.look_ok Tryz.skeyed underlying129 (zW w) (zd:=.lit (.int .i64 (-1))) (zp:=[]) rfl (keyOf_string_mk underlying9 r);rcases q.at s with ⟨f,g⟩|⟨k,b,f,g,p⟩
 ·left;refine⟨f,?_⟩;rw[IW s l g]at a;rcases tL j with ⟨rfl,-⟩|⟨b,rfl,-⟩;·exact⟨_,a⟩
  ·exact⟨_,a⟩
 ·right;refine⟨k,b,f,p,?_⟩;obtain⟨o,i⟩:=G3 s b l g;rw[o]at a;rcases tL j with ⟨rfl,e⟩|⟨m,rfl,e⟩;·rw[i]at e;have:=oR e;omega
  ·rw[i]at e;have:=oR e;have:b=m:=om;subst this;exact a
end Go.Proofs.YtcfojmaccikgeaaGreatDoor
namespace Go.Proofs.YtcfojmaccikgeaaGreatDoor
set_option maxRecDepth 100000
set_option maxHeartbeats 16000000
open Go.RowKit Go.WideMaps Go.Maps Go.Proofs.Tryz
def Jp:Zv->Nat
 | Zp (Zo a)=>a.block+1
 | _=>0
theorem oV {w:Zw} {N:Nat} {a b:Zv} {t:TypeId} (h:w.heap[N]?=Zo (.cells #[a,b] t (0,0))) :
  w.cell? ⟨N,0,Zn⟩=Zo a/\w.cell? ⟨N,1,Zn⟩=Zo b:=by refine⟨?_,?_⟩<;>simp[World.cell?,h]
def Aa(S:ZP)(M:Nat)(env:jE M)(s:ZN)(w:Zw)(e:Ending)(w':Zw):Prop:=
 w'=w/\((iX env s=Zn/\e=Zr (Zp Zn))∨∃k b,iX env s=Zo k/\e=Zr (Zp (Zo ⟨b,0,Zn⟩))/\b9 S w (M+1) k (Zp (Zo ⟨b,0,Zn⟩)))
theorem GB (S:ZP) (M n:Nat) (env:jE M) (y:Zv) (s:ZN) (w:Zw) (h:gG S w M n env y) (E:s.size<=maxLen) :
  Calls prog 155 #[y,.string s] w (Aa S M env s w):=by
 obtain⟨A,rfl⟩:∃A,y=Zp A:=by rcases h.ptr with ⟨-,rfl⟩|⟨x,rfl,-⟩<;>exact⟨_,rfl⟩
 have H:=a7 h;clear h;go_in;go_wp2;go_loopw [0] (fun v wr=>wr=w/\∃j d,gG S w M j d v/\iX env s=iX d s) (fun v _=>Jp v);case atStart=>exact⟨rfl,n,env,H.out,rfl⟩
 case round=>
  obtain⟨rfl,j,d,i,e⟩:=hrel;cases j with
  | zero=>obtain⟨rfl,rfl⟩:=i;have q:Hid (Aa S M env s wr (Zr (Zp Zn)) wr):=⟨rfl,.inl ⟨e,rfl⟩⟩;clear e;go_wp2;go_ret;exact q.out
  | succ j=>
   obtain⟨x,o,mv,fr,rest,rfl,rfl,F,r,t,m,u⟩:=i;obtain⟨G,I⟩:=oV r;obtain⟨p,rfl⟩:∃p,mv=.map (Zo p):=by obtain⟨p,l,n,h,-⟩:=m;exact⟨p,h⟩
   have D:=a7 u;have C:=a7 t;rw[Hh]at e;rcases m.look s E with ⟨f,c,g⟩|⟨k,b,f,z,g⟩
   ·rw[f]at e;have B:=a7 e;clear e m u t r f;go_wp2;go_roundw;case rel=>exact⟨trivial,j,rest,D.out,B.out⟩
    case measure=>
     show Jp (Zp o)<Jp (Zp (Zo ⟨x,0,Zn⟩));cases o with
     | none=>exact Nat.succ_pos _
     | some a=>have:=C.out a rfl;show a.block+1<x+1;omega
   ·rw[f]at e;have q:Hid (Aa S M env s wr (Zr (Zp (Zo ⟨b,0,Zn⟩))) wr):=⟨rfl,.inr ⟨k,b,e,rfl,z⟩⟩;clear e m u t r f z;go_wp2;go_ret;exact q.out
structure nM(w:Zw)(M:Nat)(s:ZN)(kb sb:Nat)(o:ZO)(w':Zw):Prop where
 below:Bw w w'
 ge:w.heap.size<=sb
 box:∃mb,w'.heap[sb]?=Zo (.cells #[Zp o,.map (Zo mb)] 131 (0,0))/\w.heap.size<=mb/\mb≠sb/\w'.ownsMap prog 9 ot mb 1 (o6 [(s,kb)])
theorem rG (M:Nat) (s:ZN) (f:Nat) (w:Zw) (m:s.size<=maxLen) :
  Calls prog 67 #[.string s,Zp (Zo ⟨f,0,Zn⟩)] w fun e n=>∃j,e=Zr (Zp (Zo ⟨j,0,Zn⟩))/\nM w M s f j Zn n:=by
 have l:∀(w:Zw),(Instr.makeMap 129 Zn).run prog w=.ok (.map (Zo w.heap.size)) (w.alloc (.map #[] 0)):=by intro w;simp[Instr.makeMap,go_sem]
 obtain⟨w1,i,b,a⟩:=(World.ownsMap_made w prog 9 ot).update (t:=129) (e:=82) Tryz.skeyed underlying129 (by unfold maxLen;omega) (keyOf_string_mk underlying9 m) (val:=Zp (Zo ⟨f,0,Zn⟩)) (d:=.lit (.int .i64 (f:Int))) (ps:=[]) rfl;have g:w1.heap.size=w.heap.size+1∨w.heap.size+1<=w1.heap.size:=.inr (by have:=a.size;simpa using this);have o:w.heap.size+1<=w1.heap.size:=om;have c:=(gx _ (.map #[] 0)).grown a zS (fun q h=>by injection h with h;omega);have k:Hid (nM w M s f w1.heap.size Zn (w1.alloc (.cells #[Zp Zn,.map (Zo w.heap.size)] 131))):=
  ⟨c.alloc om _,om,w.heap.size,heap_alloc_new _ _,Nat.le_refl _,om,b.alloc _⟩
 clear b a c g;go_in;go_wp2;go_ret;exact⟨_,rfl,k.out⟩
theorem nM.on {S:ZP} {w w':Zw} {M n:Nat} {env:jE M} {s:ZN} {k:K (M+1)} {i e:Nat} {o:ZO} (h:nM w M s i e o w') (f:Bd S w) (r:b9 S w (M+1) k (Zp (Zo ⟨i,0,Zn⟩))) (c:gG S w M n env (Zp o)) :
  gG (Ov S w.heap.size Zn w') w' M (n+1) ((s,k) :: env) (Zp (Zo ⟨e,0,Zn⟩)):=by
 obtain⟨m,l,p,u,j⟩:=h.box;have g:=(Array.getElem?_eq_some_iff.1 l).1;refine⟨e,o,.map (Zo m),[(s,k)],env,rfl,rfl,.inr ⟨h.ge,g,zS⟩,l,fun a q=>?_,⟨m,[(s,i)],1,rfl,.inr ⟨p,j.lt,zS⟩,j,⟨rfl,r.keep (a6 h.below f) fun _ h=>.inl h,trivial⟩⟩,c.keep (a6 h.below f) fun _ h=>.inl h⟩;subst q;rcases c.ptr with ⟨-,b⟩|⟨d,b,t⟩;·cases b
 ·injection b with b;injection b with b;rw[b];have:=f d t;have:=h.ge;show d<e;omega
theorem qp (S:ZP) (M n:Nat) (env:jE M) (o:Zv) (s:ZN) (k:K (M+1)) (j:Nat) (w:Zw) (c:gG S w M n env o) (r:b9 S w (M+1) k (Zp (Zo ⟨j,0,Zn⟩))) (x:Bd S w) (y:s.size<=maxLen) :
  Calls prog 168 #[o,.string s,Zp (Zo ⟨j,0,Zn⟩)] w fun e p=>∃a,e=Zr (Zp (Zo ⟨a,0,Zn⟩))/\Bw w p/\gG (Ov S w.heap.size Zn p) p M (n+1) ((s,k) :: env) (Zp (Zo ⟨a,0,Zn⟩)):=by
 obtain⟨l,rfl⟩:∃l,o=Zp l:=by rcases c.ptr with ⟨-,rfl⟩|⟨a,rfl,-⟩<;>exact⟨_,rfl⟩
 have q:=a7 (rG M s j w y);have v:=a7 c;have u:=a7 r;clear c r;go_in;go_wp2_with fail;refine q.out.mono ?_;rintro e w1 ⟨a,rfl,i⟩;have g:=i.ge;obtain⟨t,f,m,h,b⟩:=i.box;have z:=(Array.getElem?_eq_some_iff.1 f).1;have A:=(oV f).1;have f0:w1.frozen? ⟨a,0,Zn⟩=false:=by simp[World.frozen?,f]
 have d:Hid (nM w M s j a l (w1.setCell ⟨a,0,Zn⟩ (Zp l))):=
  ⟨i.below.setCell g _,g,t,by simp[World.setCell,Array.getElem?_modify,f],m,h,b.setCell (by show t≠a;exact h) _⟩
 clear q i f b;go_wp2;go_ret;exact⟨a,rfl,d.out.below,d.out.on x u.out v.out⟩
end Go.Proofs.YtcfojmaccikgeaaGreatDoor
namespace Go.Proofs.YtcfojmaccikgeaaGreatDoor
open Go.RowKit Go.Proofs.Tryz
variable {m M pl:Nat}
abbrev D5(w:Zw)(b:Nat)(x0 x1:Int)(x2:ZN)(xa:ZO)(xl xc:Nat)(ya:ZO)(yl yc:Nat):Prop:=
 w.cell? ⟨b,0,Zn⟩=Zo (.int .i64 x0)/\w.cell? ⟨b,1,Zn⟩=Zo (.int .i64 x1)/\w.cell? ⟨b,2,Zn⟩=Zo (.string x2)/\w.cell? ⟨b,3,Zn⟩=Zo (.slice xa xl xc)/\w.cell? ⟨b,4,Zn⟩=Zo (.slice ya yl yc)
abbrev D3(w:Zw)(b:Nat)(x0:Int)(xa:ZO)(xl xc:Nat)(ya:ZO)(yl yc:Nat):Prop:=
 w.cell? ⟨b,0,Zn⟩=Zo (.int .i64 x0)/\w.cell? ⟨b,1,Zn⟩=Zo (.slice xa xl xc)/\w.cell? ⟨b,2,Zn⟩=Zo (.slice ya yl yc)
def qP:ZN:=⟨#[111,108,100]⟩
def jB(M m n a:Nat)(t:T m)(fr:K n)(l:List ((ZN×Int)×K a)):Int×Nat:=
 if Gh m t=false then (2,0)
 else if (jH n fr && l.all jd)=false then (6,0)
 else if (gR (mi M l) m t [(qP,fO M n fr)] 0).2.1≠0 then (gR (mi M l) m t [(qP,fO M n fr)] 0).2
 else if 40000<gN m t then (9,0)
 else if 400<ke m t then (10,0)
 else (0,0)
def mX(r:Int×Nat)(w:Zw)(e:Ending)(w':Zw):Prop:=e=Zr (.agg #[.int .i64 r.1,.int .i64 (r.2:Nat)])/\Bw w w'
theorem Ca{t:T m}(h:Gh m t=true):gp m t 1=true/\d9 m t<=200/\36<=nj m t:=by
 unfold Gh EJ at h;simp only[Bool.and_eq_true,decide_eq_true_eq]at h;refine⟨h.2.1.1,h.2.1.2,?_⟩;have a:=h.1;unfold jM rF at a;split at a;·cases a
 ·split at a;·cases a
  ·omega
theorem oK{n:Nat}{t:K n}(h:jH n t=true):gF n t=true:=by
 cases n with
 | zero=>cases h
 | succ n=>unfold jH at h;simp only[Bool.and_eq_true]at h;exact h.1
theorem oL{sn:mq M}{t:T (m+1)}{env:jE M} (a:Nd.sort t=38∨Nd.sort t=39->iy (α:=T m) sn t≠Zn):gR sn (m+1) t env pl=if (io sn m t env pl).2.1≠0 then (zU,(io sn m t env pl).2) else kA (show Nd (T m) from t) env (io sn m t env pl).1 pl:=by rw[gR,if_neg fun h=>a h.1 h.2];rfl
theorem Fo{sn:mq M}{t:T m}{env:jE M}(b:nj m t<=35)(c:1<=m)(h:(gR sn m t env pl).2.1=0):(gR sn m t env pl).2.2=0:=by
 cases m with
 | zero=>omega
 | succ m=>
  have b:Nd.sort t<=35:=b;rw[lp b]at h ⊢;by_cases a:(io sn m t env pl).2.1≠0;·rw[if_pos a]at h;exact absurd h a
  ·rw[if_neg a]at h ⊢;unfold kA at h ⊢;rw[if_neg (by show ¬36<=Nd.sort t;omega)]at h ⊢;split at h;·next hc=>exact absurd h hc
   ·next hc=>
    rw[if_neg hc];split at h;·next ho=>rw[if_pos ho]
    ·exact absurd h (by show (7:Int)≠0;decide)
theorem Fm{sn:mq M}{t:T m}{env:jE M}(a:36<=nj m t):(gR sn m t env pl).1=zU:=by
 cases m with
 | zero=>rfl
 | succ m=>
  have a:36<=Nd.sort t:=a;rw[gR];split;·rfl
  ·split;·rfl
   ·unfold kA;rw[if_pos (show 36<=(show Nd (T m) from t).sort from a)]
theorem Fa:∀k,k<44->36<=k->∀j,j<4->(!((jr k).getD j 0==65) || (k==40 || k==41 && !(j==0) || k==42 && j==1 || k==43 && j==1))=true:=by decide
theorem GX{k j:Nat}(d:k<44)(a:36<=k)(c:j<4)(b:(jr k).getD j 0=65)(f x:K (M+1))(e:List (K (M+1))):b7 (k:Int) f j x e=true:=by
 have h:=Fa k d a j c;simp only[b,beq_self_eq_true,Bool.not_true,Bool.false_or,Bool.or_eq_true,Bool.and_eq_true,beq_iff_eq,Bool.not_eq_true',beq_eq_false_iff_ne]at h;rcases h with ((rfl|⟨rfl,h⟩)|⟨rfl,rfl⟩)|⟨rfl,rfl⟩;·simp[b7]
 ·simp[b7,h]
 ·simp[b7]
 ·simp[b7]
end Go.Proofs.YtcfojmaccikgeaaGreatDoor
