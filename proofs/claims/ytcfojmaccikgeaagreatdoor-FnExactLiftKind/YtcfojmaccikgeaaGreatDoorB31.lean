import Derived.Test.YtcfojmaccikgeaaGreatDoorB2
import Derived.Test.YtcfojmaccikgeaaGreatDoorB3
import Derived.Test.YtcfojmaccikgeaaGreatDoorB26
import Derived.Deep.RegionHeld
import Derived.Test.YtcfojmaccikgeaaGreatDoorB13
import Derived.Test.YtcfojmaccikgeaaGreatDoorSL2
import Derived.Test.YtcfojmaccikgeaaGreatDoorB30
import Derived.Test.YtcfojmaccikgeaaGreatDoorB15
import Derived.BigQuiet
open Go.Value renaming slice→Zs,int→Zi,string→Zt,agg→Za
open Go.IntKind renaming i64→Zk
open Go.Ending renaming returned→Zr
open Go.Obj renaming cells→Zc
open Option renaming none→Zn,some→Zo
open Bool renaming and_eq_true→Zq
open List renaming getElem_mem→Zg
namespace Go.Proofs.YtcfojmaccikgeaaGreatDoor
open Go.RowKit Go.Proofs.Tryz
set_option maxRecDepth 100000
set_option maxHeartbeats 16000000
variable {m j M pl:Nat} {a:ByteArray} {α:Type}
def EC(m:Nat):Prop:=∀(S:Nat->Prop)(t:T m)(c0 c1 c2 c3 c4:Value)(w:World),fZ S w m t c0 c1 c2 c3 c4->(Bd S w)->fJ m t<=1048576 ->
 Calls prog 101 #[Za #[c0,c1,c2,c3,c4]] w fun e a=>e=Zr (Zi Zk (fJ m t:Nat))/\Bw w a
theorem oL(l:List (T m)):∀j,b5 (fun k=>fJ m k) (l.take j)<=b5 (fun k=>fJ m k) l:=by intro j;have:=im (fun k=>fJ m k) (l.take j) (l.drop j);rw[List.take_append_drop]at this;omega
theorem zf{l:List (T m)}(h:j<l.length):fJ m l[j]<=b5 (fun k=>fJ m k) l:=gX _ _ _ (Zg h)
theorem Ev(t:T m):1<=fJ m t:=by
 cases m with
 | zero=>exact Empty.elim (show Empty from t)
 | succ m=>simp only[fJ];omega
theorem ou(l:List (T m)):l.length<=b5 (fun k=>fJ m k) l:=by
 induction l with
 | nil=>simp
 | cons a r b=>have:=Ev a;simp only[b5,List.length_cons];omega
def wS{m:Nat}(l:List (T m))(i:Nat):Nat:=1+b5 (fun k=>fJ m k) (l.take i)
theorem wK(m:Nat)(hn:EC m):EC (m+1):=by
 intro S t c0 c1 c2 c3 c4 w ht A f;obtain⟨rfl,rfl,rfl,hs,T,H,h3,R,⟨na,nl,J,rfl,E⟩,⟨B,kl,C,rfl,L⟩⟩:=ht;obtain⟨_,_,F,-⟩:=id h3;cases F
 obtain⟨_,_,F,y,-⟩:=id R;cases F
 have f:1+b5 (fun k=>fJ m k) (Nd.kids t)<=1048576:=f;have u:=ou (Nd.kids t);have HP:=a7 (oL (Nd.kids t));have Q:Hid (∀k (h:k<(Nd.kids t).length),fJ m (Nd.kids t)[k]<=1048576):=fun k h=>by have:=zf h;omega
 have P:Hid (∀k (h:k<(Nd.kids t).length),b5 (fun k=>fJ m k) ((Nd.kids t).take (k+1))=b5 (fun k=>fJ m k) ((Nd.kids t).take k)+fJ m (Nd.kids t)[k]):=fun k h=>fY _ _ _ h;have HF:Hid (fJ (m+1) t=wS (Nd.kids t) (Nd.kids t).length):=by show _=_;unfold wS;rw[List.take_length];rfl
 have ad:(Nd.kids t).length<=1048576:=om;have I:Hid (1+b5 (fun k=>fJ m k) (Nd.kids t)<=1048576):=f;clear y f u;have o:=(Below.refl w.heap.size w).alloc (Nat.le_refl _) (Zc #[Zi Zk (Nd.sort t),Zi Zk (Nd.num t),Zt (Nd.text t),Zs na (Nd.names t).length J,Zs B (Nd.kids t).length C] 40);have hK:=R.keepN (a6 o A) (fun _ h=>h);obtain⟨W,D⟩:=iw (w.alloc (Zc #[Zi Zk (Nd.sort t),Zi Zk (Nd.num t),Zt (Nd.text t),Zs na (Nd.names t).length J,Zs B (Nd.kids t).length C] 40));have p:=heap_alloc_last w (Zc #[Zi Zk (Nd.sort t),Zi Zk (Nd.num t),Zt (Nd.text t),Zs na (Nd.names t).length J,Zs B (Nd.kids t).length C] 40);have G:w.heap.size<W.heap.size:=by rw[D];simp
 obtain⟨z0,z1,z2,z3,z4⟩:=gE p;rw[<- D]at o hK z4;have z:=a7 o;clear h3 R o p z0 z1 z2 z3 E L hs H T;go_in;go_wp2_with fail;rw[<- D];clear D;obtain⟨_,_,U,-,d⟩:=hK;cases U
 go_loopw [3,4] (fun a i wr=>∃j:Nat,j<=(Nd.kids t).length/\i=Zi Zk j/\a=Zi Zk ((wS (Nd.kids t) j:Nat))/\Bw W wr) (fun _ i _=>(Nd.kids t).length-(intOf i).toNat);case atStart=>exact⟨0,Nat.zero_le _,rfl,rfl,Below.refl _ _⟩
 case round=>
  obtain⟨j,hj,rfl,rfl,c⟩:=hrel;have ac:=c.size;have q4:wr.cell? ⟨w.heap.size,4,Zn⟩=Zo (Zs B (Nd.kids t).length C):=kC c z4 G;by_cases l:j<(Nd.kids t).length
  ·obtain⟨b,off,rfl,K,n⟩:=d (by intro h;rw[h]at l;simp at l);obtain⟨x0,x1,x2,x3,x4,Y,e1,Z,e3,X,q⟩:=n j l;obtain⟨y0,y1,y2,ya,yl,yc,za,zl,zc,rfl,rfl,rfl,rfl,rfl⟩:=q.shape;have aa:=A b K;have f0:=kC c Y om;have f1:=kC c e1 om;have f2:=kC c Z om;have f3:=kC c e3 om;have f4:=kC c X om;have qq:=q.keep (a6 c (fun b V=>by have:=A b V;omega)) (fun _ h=>h);have s:=a7 (hn S (Nd.kids t)[j] _ _ _ _ _ wr qq (fun b V=>by have:=A b V;omega) (Q.out j l));have h1:=HP.out (j+1);have M:=I.out;have g:Hid (wS (Nd.kids t) (j+1)=wS (Nd.kids t) j+fJ m (Nd.kids t)[j]):=by show _=_;unfold wS;rw[P.out j l];omega
   have N:wS (Nd.kids t) (j+1)<=1048576:=by unfold wS;omega
   rw[g.out]at N;generalize wS (Nd.kids t) j=cs at *;generalize fJ m (Nd.kids t)[j]=cv at *;have ab:IntKind.i64.wrap ((cs:Int)+(cv:Int))=((cs+cv:Nat):Int):=by rw[IntKind.wrap_i64];omega
   have r:=a7 c;clear d n Y e1 Z e3 X q qq c h1 M;go_wp2_with fail;refine s.out.mono ?_;rintro e w2 ⟨rfl,v⟩;have O:=a7 (r.out.trans (v.mono r.out.size));clear v f0 f1 f2 f3 f4 q4 s r;go_wp2;go_roundw;case rel=>exact⟨j+1,om,by go_num,by rw[g.out];go_num,O.out⟩
   case measure=>simp[intOf];omega
  ·have x:j=(Nd.kids t).length:=by omega
   have HQ:Hid (Bw w wr):=z.out.trans (c.mono z.out.size);rw[<- x]at HF;clear d x;go_wp2;go_ret;exact⟨fO (by rw[HF.out]),HQ.out⟩
theorem yR:∀m,EC m:=by
 intro m;induction m with
 | zero=>intro S t c0 c1 c2 c3 c4 w a;exact a.elim
 | succ m b=>exact wK m b
def gp{m:Nat}(l:List (T m))(i pl:Nat):Nat:=pl+1+b5 (fun k=>fJ m k) (l.take i)
theorem pG (m:Nat) (S:Nat->Prop) (t:T (m+1)) (c0 c1 c2 c3 c4:Value) (i pl:Nat) (w:World) (ht:fZ S w (m+1) t c0 c1 c2 c3 c4) (A:Bd S w) (g:fJ (m+1) t<=1048576) (hi:i<=(Nd.kids t).length) (ac:pl<=1048576) :
  Calls prog 75 #[Za #[c0,c1,c2,c3,c4],Zi Zk (i:Int),Zi Zk (pl:Int)] w fun e w'=>e=Zr (Zi Zk (gp (Nd.kids t) i pl:Nat))/\Bw w w':=by
 obtain⟨rfl,rfl,rfl,hs,V,H,h3,U,⟨na,nl,J,rfl,E⟩,⟨B,kl,C,rfl,L⟩⟩:=ht;obtain⟨_,_,F,-⟩:=id h3;cases F
 obtain⟨_,_,F,y,-⟩:=id U;cases F
 have g:1+b5 (fun k=>fJ m k) (Nd.kids t)<=1048576:=g;have u:=ou (Nd.kids t);have HP:=a7 (oL (Nd.kids t));have Q:Hid (∀k (h:k<(Nd.kids t).length),fJ m (Nd.kids t)[k]<=1048576):=fun k h=>by have:=zf h;omega
 have P:Hid (∀k (h:k<(Nd.kids t).length),b5 (fun k=>fJ m k) ((Nd.kids t).take (k+1))=b5 (fun k=>fJ m k) ((Nd.kids t).take k)+fJ m (Nd.kids t)[k]):=fun k h=>fY _ _ _ h;have ae:(Nd.kids t).length<=1048576:=om;have I:Hid (1+b5 (fun k=>fJ m k) (Nd.kids t)<=1048576):=g;have ag:IntKind.i64.wrap ((pl:Int)+1)=((pl+1:Nat):Int):=by rw[IntKind.wrap_i64];omega
 clear y g u;have o:=(Below.refl w.heap.size w).alloc (Nat.le_refl _) (Zc #[Zi Zk (Nd.sort t),Zi Zk (Nd.num t),Zt (Nd.text t),Zs na (Nd.names t).length J,Zs B (Nd.kids t).length C] 40);have hK:=U.keepN (a6 o A) (fun _ h=>h);obtain⟨W,D⟩:=iw (w.alloc (Zc #[Zi Zk (Nd.sort t),Zi Zk (Nd.num t),Zt (Nd.text t),Zs na (Nd.names t).length J,Zs B (Nd.kids t).length C] 40));have p:=heap_alloc_last w (Zc #[Zi Zk (Nd.sort t),Zi Zk (Nd.num t),Zt (Nd.text t),Zs na (Nd.names t).length J,Zs B (Nd.kids t).length C] 40);have G:w.heap.size<W.heap.size:=by rw[D];simp
 obtain⟨z0,z1,z2,z3,z4⟩:=gE p;rw[<- D]at o hK z4;have z:=a7 o;clear h3 U o p z0 z1 z2 z3 E L hs H V;go_in;go_wp2_with fail;rw[<- D];clear D;obtain⟨_,_,X,-,f⟩:=hK;cases X
 go_loopw [2,7] (fun a x wr=>∃j:Nat,j<=i/\x=Zi Zk j/\a=Zi Zk (gp (Nd.kids t) j pl:Nat)/\Bw W wr) (fun _ x _=>i-(intOf x).toNat);case atStart=>exact⟨0,Nat.zero_le _,rfl,rfl,Below.refl _ _⟩
 case round=>
  obtain⟨j,hj,rfl,rfl,c⟩:=hrel;have ad:=c.size;have q4:wr.cell? ⟨w.heap.size,4,Zn⟩=Zo (Zs B (Nd.kids t).length C):=kC c z4 G;by_cases af:j<i
  ·have d:j<(Nd.kids t).length:=by omega
   obtain⟨b,off,rfl,K,n⟩:=f (by intro h;rw[h]at d;simp at d);obtain⟨x0,x1,x2,x3,x4,e0,e1,e2,e3,Z,q⟩:=n j d;obtain⟨y0,y1,y2,ya,yl,yc,za,zl,zc,rfl,rfl,rfl,rfl,rfl⟩:=q.shape;have aa:=A b K;have f0:=kC c e0 om;have f1:=kC c e1 om;have f2:=kC c e2 om;have f3:=kC c e3 om;have f4:=kC c Z om;have qq:=q.keep (a6 c (fun b Y=>by have:=A b Y;omega)) (fun _ h=>h);have s:=a7 (yR m S (Nd.kids t)[j] _ _ _ _ _ wr qq (fun b Y=>by have:=A b Y;omega) (Q.out j d));have h1:=HP.out (j+1);have M:=I.out;have l:Hid (gp (Nd.kids t) (j+1) pl=gp (Nd.kids t) j pl+fJ m (Nd.kids t)[j]):=by show _=_;unfold gp;rw[P.out j d];omega
   have N:gp (Nd.kids t) (j+1) pl<=3000000:=by unfold gp;omega
   rw[l.out]at N;generalize gp (Nd.kids t) j pl=cs at *;generalize fJ m (Nd.kids t)[j]=cv at *;have ab:IntKind.i64.wrap ((cs:Int)+(cv:Int))=((cs+cv:Nat):Int):=by rw[IntKind.wrap_i64];omega
   have r:=a7 c;clear f n e0 e1 e2 e3 Z q qq c h1 M;go_wp2_with fail;refine s.out.mono ?_;rintro e w2 ⟨rfl,v⟩;have O:=a7 (r.out.trans (v.mono r.out.size));clear v f0 f1 f2 f3 f4 q4 s r;go_wp2;go_roundw;case rel=>exact⟨j+1,om,by go_num,by rw[l.out];go_num,O.out⟩
   case measure=>simp[intOf];omega
  ·have R:j=i:=by omega
   have HQ:Hid (Bw w wr):=z.out.trans (c.mono z.out.size);subst R;clear f;go_wp2;go_ret;exact⟨rfl,HQ.out⟩
def jx{M:Nat}(sn:wD M)(m:Nat)(t:T (m+1))(env:jS M)(pl:Nat):List (K (M+1))×Int×Nat:=
 pc (jQ sn m) (fJ m) (fun i a=>mu (Nd.sort t) (Nd.names t) i a env) (b9 (Nd.sort t) ((ly sn (show Nd (T m) from t)).getD zU)) (Nd.kids t) [] (pl+1)
structure xo{M:Nat}(sn:wD M)(m:Nat)(t:T (m+1))(env:jS M)(pl j:Nat)(ks:List (K (M+1))):Prop where
 len:ks.length=j
 eq:jx sn m t env pl=pc (jQ sn m) (fJ m) (fun i ks=>mu (Nd.sort t) (Nd.names t) i ks env) (b9 (Nd.sort t) ((ly sn (show Nd (T m) from t)).getD zU)) ((Nd.kids t).drop j) ks (gp (Nd.kids t) j pl)
 want:∀i (h:i<ks.length),b9 (Nd.sort t) ((ly sn (show Nd (T m) from t)).getD zU) i ks[i] (ks.take i)=true
theorem xo.start(sn:wD M)(m:Nat)(t:T (m+1))(env:jS M)(pl:Nat):xo sn m t env pl 0 []:=
 ⟨rfl,by unfold jx gp;rfl,fun i h=>absurd h (Nat.not_lt_zero _)⟩
def nL{M:Nat}(sn:wD M)(m:Nat)(t:T (m+1))(env:jS M)(pl j:Nat)(a:List (K (M+1)))(k:T m):K (M+1)×Int×Nat:=
 jQ sn m k (mu (Nd.sort t) (Nd.names t) j a env) (gp (Nd.kids t) j pl)
theorem xo.bad {sn:wD M} {t:T (m+1)} {env:jS M} {a:List (K (M+1))} (h:xo sn m t env pl j a) (c:j<(Nd.kids t).length) (b:(nL sn m t env pl j a (Nd.kids t)[j]).2.1≠0) :
  jx sn m t env pl=([],(nL sn m t env pl j a (Nd.kids t)[j]).2):=by unfold nL at b ⊢;rw[h.eq,List.drop_eq_getElem_cons c,pc,h.len];exact if_pos b
theorem xo.wrong {sn:wD M} {t:T (m+1)} {env:jS M} {a:List (K (M+1))} (h:xo sn m t env pl j a) (d:j<(Nd.kids t).length) (c:(nL sn m t env pl j a (Nd.kids t)[j]).2.1=0) (b:b9 (Nd.sort t) ((ly sn (show Nd (T m) from t)).getD zU) j (nL sn m t env pl j a (Nd.kids t)[j]).1 a=false) :
  jx sn m t env pl=([],6,gp (Nd.kids t) j pl):=by unfold nL at c b;rw[h.eq,List.drop_eq_getElem_cons d,pc,h.len];exact (if_neg (by rw[c];simp)).trans (if_neg (by rw[b];simp))
theorem xo.next {sn:wD M} {t:T (m+1)} {env:jS M} {a:List (K (M+1))} (h:xo sn m t env pl j a) (g:j<(Nd.kids t).length) (n:(nL sn m t env pl j a (Nd.kids t)[j]).2.1=0) (f:b9 (Nd.sort t) ((ly sn (show Nd (T m) from t)).getD zU) j (nL sn m t env pl j a (Nd.kids t)[j]).1 a=true) :
  xo sn m t env pl (j+1) (a++[(nL sn m t env pl j a (Nd.kids t)[j]).1]):=by
 refine⟨by rw[List.length_append,h.len];rfl,?_,fun i hi=>?_⟩
 ·have b:=n;have d:=f;unfold nL at b d ⊢;rw[h.eq,List.drop_eq_getElem_cons g,pc,h.len];refine (if_neg (by rw[b];simp)).trans ((if_pos d).trans ?_);have l:gp (Nd.kids t) (j+1) pl=gp (Nd.kids t) j pl+fJ m (Nd.kids t)[j]:=by unfold gp;rw[fY _ _ _ g];omega
  rw[l]
 ·by_cases c:i<a.length;·rw[List.getElem_append_left c,List.take_append_of_le_length om];exact h.want i c
  ·have e:i=a.length:=by simp at hi;omega
   subst e;have k:(a++[(nL sn m t env pl j a (Nd.kids t)[j]).1])[a.length]'hi=(nL sn m t env pl j a (Nd.kids t)[j]).1:=zS;rw[k,List.take_left',h.len];·exact f
   ·rfl
theorem xo.done{sn:wD M}{t:T (m+1)}{env:jS M}{a:List (K (M+1))}(h:xo sn m t env pl j a)(b:j=(Nd.kids t).length):jx sn m t env pl=(a,0,0):=by subst b;rw[h.eq,List.drop_length,pc]
theorem lm{sn:wD M}{t:T (m+1)}{env:jS M}(a:Nd.sort t<=35):jQ sn (m+1) t env pl=if (jx sn m t env pl).2.1≠0 then (zU,(jx sn m t env pl).2) else mg (show Nd (T m) from t) env (jx sn m t env pl).1 pl:=by rw[jQ,if_neg om];rfl
theorem pw(d:5<=M){sn:wD M}{t:T m}{env:jS M}(c:pU m t<=35)(h:(jQ sn m t env pl).2.1=0)(e:1<=m):gV (M+1) (jQ sn m t env pl).1=true:=by
 cases m with
 | zero=>omega
 | succ m=>
  have c:Nd.sort t<=35:=c;rw[lm c]at h ⊢;by_cases a:(jx sn m t env pl).2.1≠0;·rw[if_pos a]at h;exact absurd h a
  ·rw[if_neg a]at h ⊢;unfold mg at h ⊢;have b:¬36<=(show Nd (T m) from t).sort:=by show ¬36<=Nd.sort t;omega
   rw[if_neg b]at h ⊢;split at h;·next hc=>exact absurd h hc
   ·next hc=>
    rw[if_neg hc];split at h;·next ho=>rw[if_pos ho];exact (rR d ho).1
    ·cases h
theorem qK(h:gh a=true):a.size<=8:=by unfold gh at h;simp only[Zq,decide_eq_true_eq]at h;exact h.1.1.2
theorem DS(h:ii a=true):a.size<=8:=by unfold ii at h;simp only[Zq]at h;exact qK h.1.1.1.1
theorem Hq{n:Nd α}(h:gy n [88]=true):∃a,n.names=[a]/\a.size<=8:=by
 simp only[gy,Zq]at h;have b:=h.2;split at b;·next a e=>exact⟨a,e,DS b⟩
 ·cases b
theorem H9{n:Nd α}(h:gy n [78]=true):∃a,n.names=[a]/\a.size<=8/\gh a=true:=by
 simp only[gy,Zq]at h;have b:=h.2;split at b;·next a e=>exact⟨a,e,qK b,b⟩
 ·cases b
theorem G9{n:Nd α}(h:gy n [88,88]=true):∃a b,n.names=[a,b]:=by
 simp only[gy,Zq]at h;have c:=h.2;split at c;·next a b e=>exact⟨a,b,e⟩
 ·cases c
theorem Fe{n:Nd α}(h:gy n [75]=true):jK n.text=true:=by simp only[gy,Zq]at h;exact h.1.2
theorem yK:∀k,k<36->∀v,v∈lA k->v=86:=by decide
structure pX{m:Nat}(t:T (m+1)):Prop where
 lo:1<=Nd.sort t
 free:Nd.sort t=4∨Nd.sort t=20∨Nd.sort t=32∨Nd.sort t=33∨Nd.sort t=34->∃a,Nd.names t=[a]/\a.size<=8
 fld:Nd.sort t=21∨Nd.sort t=22∨Nd.sort t=23->∃a,Nd.names t=[a]/\a.size<=8/\gh a=true
 two:Nd.sort t=35->∃a b,Nd.names t=[a,b]
 kind:Nd.sort t=5∨Nd.sort t=6->jK (Nd.text t)=true
 frm:Nd.sort t=24->(Nd.names t).length=(Nd.kids t).length/\(∀i,i<(Nd.names t).length->kA (Nd.names t) i=true)
 cnt:Nd.sort t≠24->(Nd.kids t).length=(lA (Nd.sort t).toNat).length
 kid:∀j (h:j<(Nd.kids t).length),jT m (Nd.kids t)[j]=86
theorem E0{t:T (m+1)}(d:iu (jT m) (show Nd (T m) from t)=true)(n:Nd.sort t<=35):pX t:=by
 have c:1<=Nd.sort t:=by have h:=d;unfold iu at h;simp only[Zq,decide_eq_true_eq]at h;exact h.1.1
 by_cases b:Nd.sort t=24;·rw[lN (jT m) (show Nd (T m) from t) b]at d;simp only[Zq]at d;have e:=d.1;unfold iH iN at e;simp only[Zq,beq_iff_eq,List.all_eq_true,List.mem_range]at e;have o:(Nd.names t).length=(Nd.kids t).length:=e.1;refine⟨c,fun h=>om,fun h=>om,fun h=>om,fun h=>om,fun _=>⟨o,fun i h=>(e.2 i h).1⟩,fun h=>absurd b h,fun j h=>?_⟩;have:=(e.2 j (by show j<(Nd.names t).length;omega)).2;rw[List.getD_eq_getElem?_getD,List.getElem?_map,List.getElem?_eq_getElem h]at this;simpa using this
 ·rw[mx (jT m) (show Nd (T m) from t) c (by show Nd.sort t<=43;omega) b]at d;simp only[Zq,decide_eq_true_eq]at d;obtain⟨a,g⟩:=d;have a:gy (show Nd (T m) from t) (iM (Nd.sort t).toNat)=true:=a;have g:(Nd.kids t).map (jT m)=(lA (Nd.sort t).toNat).map (fun v=>(v.toNat:Int)):=g;have f:(Nd.kids t).length=(lA (Nd.sort t).toNat).length:=by simpa using congrArg List.length g
  refine⟨c,fun h=>?_,fun h=>?_,fun h=>?_,fun h=>?_,fun h=>absurd h b,fun _=>f,fun j h=>?_⟩;·rcases h with h|h|h|h|h<;>(rw[h]at a;exact Hq a)
  ·rcases h with h|h|h<;>(rw[h]at a;exact H9 a)
  ·rw[h]at a;exact G9 a
  ·rcases h with h|h<;>(rw[h]at a;exact Fe a)
  ·have k:((Nd.kids t).map (jT m))[j]?=Zo (jT m (Nd.kids t)[j]):=by rw[List.getElem?_map,List.getElem?_eq_getElem h];rfl
   rw[g,List.getElem?_map,List.getElem?_eq_getElem om]at k;have l:=yK (Nd.sort t).toNat om _ (Zg (show j<(lA (Nd.sort t).toNat).length by omega));rw[l]at k;simpa using k.symm
theorem sJ{t:T m}(h:jT m t=86):1<=pU m t/\pU m t<=35:=by
 unfold jT rP at h;split at h;·cases h
 ·split at h;·omega
  ·cases h
theorem pX.wantOp{t:T (m+1)}(h:pX t)(c:Nd.sort t<=35)(j:Nat)(i:j<(Nd.kids t).length):Nd.sort t=24∨(Nd.sort t,j)∈BQ:=by
 by_cases a:Nd.sort t=24;·exact .inl a
 ·right;have f:=h.lo;have g:=h.cnt a;have b:=Dy (Nd.sort t).toNat om j om;have e:(((Nd.sort t).toNat:Nat):Int)=Nd.sort t:=om;rw[e]at b;have d:(lA (Nd.sort t).toNat).getD j 0=86:=by rw[gr om];exact yK _ om _ (Zg _)
  rcases b with h|h|h|h|h;·omega
  ·omega
  ·omega
  ·exact absurd d h
  ·exact h
theorem oJ{t:T (m+1)}{env:jS M}{a:List (K (M+1))}(h:xo [] m t env pl j a)(i:Nat)(hi:i<a.length):b9 (Nd.sort t) ((ly ([]:wD M) (show Nd (T m) from t)).getD zU) i (a.getD i zU) (a.take i)=true:=by rw[gr hi];exact h.want i hi
theorem pX.bindOk{t:T (m+1)}(h:pX t)(i:Nd.sort t<=35){env:jS M}{d:List (K (M+1))}(g:xo [] m t env pl j d):tw (Nd.sort t) (Nd.names t) j d:=by
 have e:0<d.length->b9 (Nd.sort t) ((ly ([]:wD M) (show Nd (T m) from t)).getD zU) 0 (d.getD 0 zU) (d.take 0)=true:=fun h=>oJ g 0 h;have k:=g.len;refine⟨fun c=>?_,fun c=>?_,fun c hi=>?_,fun c hi=>?_,fun c hi=>?_⟩;·obtain⟨a,f,-⟩:=h.free om;rw[f];simp
 ·obtain⟨a,b,f⟩:=h.two c;rw[f];simp
 ·have:=e om;rw[c]at this;simpa [b9] using this
 ·have:=e om;rcases c with c|c|c;·rw[c]at this;simpa [b9] using this
  ·rw[c]at this;simpa [b9] using this
  ·omega
 ·have:=e om;rw[c]at this;simpa [b9] using this
theorem pX.comeOk{t:T (m+1)}(h:pX t)(g:Nd.sort t<=35)(n:(Nd.kids t).length<=1000){env:jS M}{c:List (K (M+1))}(o:xo [] m t env pl j c)(w:j=(Nd.kids t).length):Aq (Nd.sort t) (Nd.names t) (Nd.text t) c:=by
 have v:=o.len;have f:Nd.sort t≠24->c.length=(lA (Nd.sort t).toNat).length:=fun l=>by have:=h.cnt l;omega
 have p:0<c.length->b9 (Nd.sort t) ((ly ([]:wD M) (show Nd (T m) from t)).getD zU) 0 (c.getD 0 zU) (c.take 0)=true:=fun h=>oJ o 0 h;refine⟨h.lo,g,fun b=>?_,fun b=>?_,h.kind,fun b=>?_,fun b=>?_,fun b=>?_,fun b=>?_,fun b=>?_⟩
 ·rcases b with b|b;·obtain⟨a,d,-⟩:=h.free (.inl b);rw[d];simp
  ·obtain⟨a,d,-⟩:=h.fld b;rw[d];simp
 ·obtain⟨a,d,r,-⟩:=h.fld om;rw[d];exact r
 ·have:=f om;rcases b with b|b|b|b|b|b|b|b<;>(rw[b]at this;rw[this];decide)
 ·have:=f om;rcases b with b|b|b|b|b|b|b<;>(rw[b]at this;rw[this];decide)
 ·have e:0<c.length:=by have:=f om;rcases b with b|b|b<;>(rw[b]at this;rw[this];decide)
  have:=p e;rcases b with b|b|b<;>(rw[b]at this;simpa [b9] using this)
 ·have e:0<c.length:=by have:=f om;rw[b]at this;rw[this];decide
  have:=p e;rw[b]at this;simpa [b9] using this
 ·obtain⟨e,q⟩:=h.frm b;refine⟨om,fun s u=>?_⟩;obtain⟨i,hi,rfl⟩:=List.getElem_of_mem u;have k:=q i hi;unfold kA iU at k;simp only[Zq]at k;have:=qK k.1.1;rw[gr hi]at this;omega
def Fv(m:Nat):Prop:=∀(S:Nat->Prop)(t:T m)(c0 c1 c2 c3 c4:Value)(d:Int)(w:World),fZ S w m t c0 c1 c2 c3 c4->(Bd S w)->gD m t d=true->gx m t<=800000 ->
 Calls prog 72 #[Za #[c0,c1,c2,c3,c4]] w fun e a=>Bw w a/\∃s,e=Zr (Zt s)/\s.size=gx m t
theorem iW(a b:ByteArray):(a++b).size=a.size+b.size:=by simp
theorem pJ(f:α->Nat)(l:List α)(k:Nat):b5 f (l.take k)<=b5 f l:=by have:=im f (l.take k) (l.drop k);rw[List.take_append_drop]at this;omega
theorem rm(l:List ByteArray)(k:Nat):jc (l.take k)<=jc l:=by have:=sT (l.take k) (l.drop k);rw[List.take_append_drop]at this;omega
theorem A9 (m:Nat) (hn:Fv m) (S:Nat->Prop) (n:Nd (T m)) (na K:Option Addr) (v z:Nat) (d:Int) (w:World) (E:Bd S w) (h3:fL S w n.names (Zs na n.names.length v)) (h4:ig S w (fZ S w m) n.kids (Zs K n.kids.length z))
  (ah:n.names.length=n.kids.length) (hg:n.kids.all (fun x=>gD m x d)=true) (hl:8+jc n.names+b5 (fun x=>gx m x+1) n.kids<=800000) :
  Calls prog 72 #[Za #[Zi Zk 24,Zi Zk n.num,Zt n.text,Zs na n.names.length v,Zs K n.kids.length z]] w fun e j=>Bw w j/\∃s,e=Zr (Zt s)/\s.size=8+jc n.names+b5 (fun x=>gx m x+1) n.kids:=by
 obtain⟨W,P⟩:=iw (w.alloc (Zc #[Zi Zk 24,Zi Zk n.num,Zt n.text,Zs na n.names.length v,Zs K n.kids.length z] 40));have l:Bw w W:=by rw[P];exact gF _ _
 have ap:w.heap.size<W.heap.size:=by rw[P];simp
 have r:W.heap[w.heap.size]?=Zo (Zc #[Zi Zk 24,Zi Zk n.num,Zt n.text,Zs na n.names.length v,Zs K n.kids.length z] 40 (0,0)):=by rw[P];exact heap_alloc_last _ _
 obtain⟨_,_,U,ab,ag,A⟩:=h3.keep (a6 l E) (fun _ h=>h);cases U
 obtain⟨_,_,U,R,B⟩:=h4.keepN (a6 l E) (fun _ h=>h);cases U
 have HG:Hid (∀k (h:k<n.kids.length),gD m n.kids[k] d=true):=fun k h=>List.all_eq_true.1 hg _ (Zg h);have HL:Hid (8+jc n.names+b5 (fun x=>gx m x+1) n.kids<=800000):=hl;have an:n.names.length<=n.kids.length:=om;have ao:n.kids.length<=n.names.length:=om;have ai:=a7 l;unfold maxLen at ab R;clear hg hl h3 h4 ah l;subst P;go_in;go_wp2;go_loopw [3,4] (fun a i wr=>∃(k:Nat)(s:ByteArray),k<=n.kids.length/\i=Zi Zk k/\a=Zt s/\Hid (s.size=4+jc (n.names.take k)+b5 (fun x=>gx m x+1) (n.kids.take k))/\Below (w.heap.size+1) (w.alloc (Zc #[Zi Zk 24,Zi Zk n.num,Zt n.text,Zs na n.names.length v,Zs K n.kids.length z] 40)) wr) (fun _ i _=>n.kids.length-(intOf i).toNat);case atStart=>exact⟨0,⟨#[102,111,114,109]⟩,Nat.zero_le _,rfl,rfl,rfl,Below.refl _ _⟩
 case round=>
  obtain⟨k,s,hk,rfl,rfl,Z,g⟩:=hrel;obtain⟨z0,z1,z2,z3,z4⟩:=gE ((g.block w.heap.size om).trans r);by_cases u:k<n.kids.length
  ·have o:k<n.names.length:=by omega
   obtain⟨b,off,rfl,ac,t⟩:=A (by intro h;rw[h]at o;simp at o);have aq:=E b ac;have e0:=kC g (t k o) om;obtain⟨q,c,rfl,I,p⟩:=B (by intro h;have:=List.length_eq_zero_iff.2 h;omega);have al:=E q I;obtain⟨d0,d1,d2,d3,d4,k0,k1,k2,k3,k4,C⟩:=p k u;obtain⟨x0,X,Y,xa,xl,xc,ya,yl,yc,rfl,rfl,rfl,rfl,rfl⟩:=C.shape;have f0:=kC g k0 om;have f1:=kC g k1 om;have f2:=kC g k2 om;have f3:=kC g k3 om;have f4:=kC g k4 om;have Q:=g.size;have HC:Hid (∀J,Bw wr J->Calls prog 72 #[Za #[Zi Zk x0,Zi Zk X,Zt Y,Zs xa xl xc,Zs ya yl yc]] J fun e j=>∃s,e=Zr (Zt s)/\s.size=gx m n.kids[k]/\Bw wr j/\(j.cell? ⟨w.heap.size,3,Zn⟩=Zo (Zs (Zo ⟨b,off,Zn⟩) n.names.length v)/\j.cell? ⟨w.heap.size,4,Zn⟩=Zo (Zs (Zo ⟨q,c,Zn⟩) n.kids.length z)/\j.cell? ⟨b,off+k,Zn⟩=Zo (Zt n.names[k])/\j.cell? ⟨q,c+k*5,Zn⟩=Zo (Zi Zk x0)/\j.cell? ⟨q,c+k*5+1,Zn⟩=Zo (Zi Zk X)/\j.cell? ⟨q,c+k*5+2,Zn⟩=Zo (Zt Y)/\j.cell? ⟨q,c+k*5+3,Zn⟩=Zo (Zs xa xl xc)/\j.cell? ⟨q,c+k*5+4,Zn⟩=Zo (Zs ya yl yc))):=by intro J D;have ak:=gX (fun x=>gx m x+1) n.kids _ (Zg u);have hL:=HL.out;have l:Below (w.heap.size+1) (w.alloc (Zc #[Zi Zk 24,Zi Zk n.num,Zt n.text,Zs (Zo ⟨b,off,Zn⟩) n.names.length v,Zs (Zo ⟨q,c,Zn⟩) n.kids.length z] 40)) J:=g.trans (D.mono (by simp at Q;omega));refine (hn S n.kids[k] _ _ _ _ _ d J (C.keep (a6 l (fun b N=>by have:=E b N;omega)) (fun _ h=>h)) (fun b N=>by have:=E b N;have:=l.size;simp at this;omega) (HG.out k u) om).mono ?_;rintro e j ⟨N,s',rfl,aj⟩;have f:Bw wr j:=D.trans (N.mono D.size);simp at Q;exact⟨s',rfl,aj,f,kC f z3 om,kC f z4 om,kC f e0 om,kC f f0 om,kC f f1 om,kC f f2 om,kC f f3 om,kC f f4 om⟩
   have O:Hid (jc (n.names.take (k+1))=jc (n.names.take k)+(n.names[k].size+1)/\b5 (fun x=>gx m x+1) (n.kids.take (k+1))=b5 (fun x=>gx m x+1) (n.kids.take k)+(gx m n.kids[k]+1)):=⟨pa _ _ o,fY _ _ _ u⟩;have ar:s.size+n.names[k].size+gx m n.kids[k]+2<=900000:=by have F:=rm n.names (k+1);have h2:=pJ (fun x=>gx m x+1) n.kids (k+1);have h3:=HL.out;rw[O.out.1]at F;rw[O.out.2]at h2;rw[Z.out];omega
   have hD:Bw wr wr.drew:=(Below.refl _ _).drew;have av:(k:Int)<(n.kids.length:Int):=om;have am:(k:Int)<(n.names.length:Int):=om;have ad:=a7 g;have aa:=a7 Q;clear A B t p C k0 k1 k2 k3 k4 r ag z0 z1 z2 g Q;generalize n.names[k]=nm at *;generalize gx m n.kids[k]=lk at *;go_wp2_with fail;go_region_held (fun j=>j.cell? ⟨w.heap.size,3,Zn⟩=Zo (Zs (Zo ⟨b,off,Zn⟩) n.names.length v)/\j.cell? ⟨w.heap.size,4,Zn⟩=Zo (Zs (Zo ⟨q,c,Zn⟩) n.kids.length z)/\j.cell? ⟨b,off+k,Zn⟩=Zo (Zt nm)/\j.cell? ⟨q,c+k*5,Zn⟩=Zo (Zi Zk x0)/\j.cell? ⟨q,c+k*5+1,Zn⟩=Zo (Zi Zk X)/\j.cell? ⟨q,c+k*5+2,Zn⟩=Zo (Zt Y)/\j.cell? ⟨q,c+k*5+3,Zn⟩=Zo (Zs xa xl xc)/\j.cell? ⟨q,c+k*5+4,Zn⟩=Zo (Zs ya yl yc)) (first|with_reducible assumption|go_keep) (first|(go_at_call 72;refine (HC.out _ hD).mono ?_;rintro e w2 ⟨s2,rfl,H,L,ae⟩));all_goals
    have V:Hid (Below (w.heap.size+1) _ w2):=ad.out.trans (L.mono (by have:=aa.out;simp at this;omega))
    have af:Hid ((((s++⟨#[32]⟩)++nm)++⟨#[32]⟩++s2).size=4+jc (n.names.take (k+1))+b5 (fun x=>gx m x+1) (n.kids.take (k+1))):=by
     show _=_
     rw[O.out.1,O.out.2,iW,iW,iW,iW,Z.out,H]
     show _+1+_+1+_=_
     omega
    clear L ae H HC f0 f1 f2 f3 f4 e0 z3 z4
    go_wp2
    go_roundw
    case rel=>exact⟨k+1,_,om,by go_num,rfl,af,V.out⟩
    case measure=>simp[intOf];omega
  ·have M:k=n.kids.length:=by omega
   have HE:Hid ((s++⟨#[32,101,110,100]⟩).size=8+jc n.names+b5 (fun x=>gx m x+1) n.kids):=by show _=_;have F:=Z.out;rw[M,List.take_length,List.take_of_length_le om]at F;rw[iW,F];show _+4=_;omega
   have HB:=a7 (ai.out.trans (g.mono om));have au:s.size<=900000:=by have F:=HE.out;rw[iW]at F;have:=HL.out;omega
   clear A B M g r z0 z1 z2 z3;go_wp2;go_ret;exact⟨HB.out,_,rfl,HE.out⟩
theorem A6 (m:Nat) (n:Nd (T m)) (na j:Option Addr) (r o k:Nat) (p:n.sort=(k:Int)) (t:1<=k) (v:k<=3) (w:World) (d:(Lit.int Zk n.sort).wf=true) (b:(Lit.int Zk n.num).wf=true) (q:n.text.size<=maxLen) (f:gS n.sort n.num n.text [] 0=true) :
  Calls prog 72 #[Za #[Zi Zk (k:Int),Zi Zk n.num,Zt n.text,Zs na n.names.length r,Zs j n.kids.length o]] w fun e i=>Bw w i/\∃s,e=Zr (Zt s)/\s.size=(ky n.sort n.num n.text).length:=by
 have g:=(Below.refl w.heap.size w).alloc (Nat.le_refl _) (Zc #[Zi Zk (k:Int),Zi Zk n.num,Zt n.text,Zs na n.names.length r,Zs j n.kids.length o] 40);have l:Hid (∀w,Calls prog 96 #[Za #[Zi Zk (k:Int),Zi Zk n.num,Zt n.text,Zs Zn 0 0,Zs Zn 0 0]] w fun e i=>e=Zr (Zt (bs (ky n.sort n.num n.text)))/\Bw w i):=by
  intro w;have u:ia 1 (lB n.sort n.num n.text) 1=true:=by show (decide ((1:Int)<=6) && gS n.sort n.num n.text [] 0 && List.all ([]:List (T 0)) _)=_;rw[f];rfl
  have:=Aw 1 (fun _=>False) (lB n.sort n.num n.text) _ _ _ _ _ 1 w (tJ _ w n.sort n.num n.text d b q) (fun _ h=>h.elim) u (by show (1:Nat)<=120;omega);rw[p]at this ⊢;exact this
 have y:Hid ((bs (ky n.sort n.num n.text)).size=(ky n.sort n.num n.text).length):=go _;generalize bs (ky n.sort n.num n.text)=s at *;have a:k=1∨k=2∨k=3:=om;clear p t v f d b q;rcases a with rfl|rfl|rfl;all_goals
  go_in
  go_wp2_with fail
  refine (l.out _).mono ?_
  rintro e w1 ⟨rfl,c⟩
  have x:=a7 (b4 g zS c)
  clear c l
  go_wp2
  go_ret
  exact⟨x.out,_,rfl,y.out⟩
theorem Ay (S:Nat->Prop) (m:Nat) (n:Nd (T m)) (na g:Option Addr) (f j:Nat) (w:World) (t:Bd S w) (k:fL S w n.names (Zs na n.names.length f)) (c:n.names≠[]) :
  Calls prog 72 #[Za #[Zi Zk 4,Zi Zk n.num,Zt n.text,Zs na n.names.length f,Zs g n.kids.length j]] w fun e q=>Bw w q/\∃s,e=Zr (Zt s)/\s.size=(n.names.headD ByteArray.empty).size:=by
 have d:=(Below.refl w.heap.size w).alloc (Nat.le_refl _) (Zc #[Zi Zk 4,Zi Zk n.num,Zt n.text,Zs na n.names.length f,Zs g n.kids.length j] 40);obtain⟨_,_,p,v,-,i⟩:=k.keep (a6 d t) (fun _ h=>h);cases p
 obtain⟨b,off,rfl,o,a⟩:=i c;have l:0<n.names.length:=List.length_pos_iff.2 c;have r:=a 0 l;rw[Nat.add_zero]at r;have u:Hid (n.names[0].size=(n.names.headD ByteArray.empty).size):=by show _=_;rw[List.headD_eq_head?_getD,List.head?_eq_getElem?,List.getElem?_eq_getElem l];rfl
 have hi:(0:Int)<(n.names.length:Int):=om;generalize n.names[0]=s at *;clear i a k c;go_in;go_wp2;go_ret;exact⟨d,_,rfl,u.out⟩
end Go.Proofs.YtcfojmaccikgeaaGreatDoor
