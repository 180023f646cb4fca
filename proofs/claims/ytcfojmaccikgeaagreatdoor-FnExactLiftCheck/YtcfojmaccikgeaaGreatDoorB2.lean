import Derived.Test.YtcfojmaccikgeaaGreatDoorRows
import Derived.Test.YtcfojmaccikgeaaGreatDoorB1
import Derived.WalkSpells
import Derived.WalkLawsBesides
import Derived.Deep.OwnRows
open Go.Value renaming slice→Zs,int→Zi,string→Zt,pointer→Zp,agg→Za,tuple→Zu,bool→Zb
open Go.IntKind renaming i64→Zk
open Go.Ending renaming returned→Zr
open Go.Obj renaming cells→Zc
open Option renaming none→Zn,some→Zo
open Go renaming World→Zw,Value→Zv
open Nat renaming le_refl→Zl,lt_of_lt_of_le→Zd,zero_le→ZE
open Bool renaming and_eq_true→Zq
open List renaming getElem_mem→Zg,length_append→Zx,eq_nil_of_length_eq_zero→Zz,length_cons→Zy,mem_cons_self→Zj,take_succ_eq_append_getElem→ZA,mem_cons_of_mem→ZB,all_eq_true→ZC
open ByteArray renaming empty→Ze
open Go.RowKit.Below renaming heap_setCell→ZD
namespace Go.Proofs.YtcfojmaccikgeaaGreatDoor
open Go.RowKit Go.Proofs.Tryz
variable {p d:Int} {n b o B t N k bb pb:Nat} {s:ZN} {w w' a c:Zw} {S S':ZP} {l:List ZN} {v g0 g1 g2 g3 g4 c0 c1 c2 c3 c4:Zv} {α:Type} {F:Nat->Zv} {r:List UInt8}
theorem a7{p:Prop}(h:p):Hid p:=h
def fL(S:ZP)(w:Zw)(l:List ZN)(v:Zv):Prop:=
 ∃(a:ZO)(cap:Nat),v=Zs a l.length cap/\l.length<=maxLen/\(∀s,s∈l->s.size<=maxLen) /\
  (l≠[]->∃b off,a=Zo ⟨b,off,Zn⟩/\S b/\∀i (h:i<l.length),w.cell? ⟨b,off+i,Zn⟩=Zo (Zt l[i]))
def ik{α:Type}(S:ZP)(w:Zw)(R:α->Zv->Zv->Zv->Zv->Zv->Prop)(l:List α)(v:Zv):Prop:=
 ∃(a:ZO)(cap:Nat),v=Zs a l.length cap/\l.length<=maxLen /\
  (l≠[]->∃b off,a=Zo ⟨b,off,Zn⟩/\S b/\∀i (h:i<l.length),∃c0 c1 c2 c3 c4,w.cell? ⟨b,off+i*5,Zn⟩=Zo c0/\w.cell? ⟨b,off+i*5+1,Zn⟩=Zo c1 /\
   w.cell? ⟨b,off+i*5+2,Zn⟩=Zo c2/\w.cell? ⟨b,off+i*5+3,Zn⟩=Zo c3/\w.cell? ⟨b,off+i*5+4,Zn⟩=Zo c4/\R l[i] c0 c1 c2 c3 c4)
def gE(S:ZP)(w:Zw):(n:Nat)->T n->Zv->Zv->Zv->Zv->Zv->Prop
 | 0,_,_,_,_,_,_=>False
 | n + 1, t, c0, c1, c2, c3, c4 => c0 = Zi Zk (Nd.sort t) /\ c1 = Zi Zk (Nd.num t) /\ c2 = Zt (Nd.text t) /\ (Nd.text t).size <= maxLen /\
   (Lit.int Zk (Nd.sort t)).wf=true/\(Lit.int Zk (Nd.num t)).wf=true/\fL S w (Nd.names t) c3/\ik S w (gE S w n) (Nd.kids t) c4
def jn(S:ZP)(w w':Zw):Prop:=∀b,S b->w'.heap[b]?=w.heap[b]?
theorem gx(w:Zw)(o:Obj):Bw w (w.alloc o):=(Below.refl _ _).alloc (Zl _) o
theorem kC{s:Option Nat}{x:Option Zv}(h:Below n w w')(e:w.cell? ⟨b,o,s⟩=x)(a:b<n):w'.cell? ⟨b,o,s⟩=x:=(h.cell (p:=⟨b,o,s⟩) a).trans e
theorem jn.cell(h:jn S w w'){p:Addr}(a:S p.block):w'.cell? p=w.cell? p:=World.cell?_of_block (w:=w) (h p.block a)
theorem a6(h:Below B w w')(a:∀b,S b->b<B):jn S w w':=fun b c=>h.block b (a b c)
theorem fL.keep(h:fL S w l v)(j:jn S w w')(f:∀b,S b->S' b):fL S' w' l v:=by obtain⟨e,cap,o,m,n,k⟩:=h;refine⟨e,cap,o,m,n,fun c=>?_⟩;obtain⟨b,off,g,d,a⟩:=k c;exact⟨b,off,g,f b d,fun i hi=>(j.cell (p:=⟨b,off+i,Zn⟩) d).trans (a i hi)⟩
theorem ik.keep {R f:α->Zv->Zv->Zv->Zv->Zv->Prop} {l:List α} (h:ik S w R l v) (d:jn S w w') (r:∀ b,S b->S' b)
  (q:∀x c0 c1 c2 c3 c4,x∈l->R x c0 c1 c2 c3 c4->f x c0 c1 c2 c3 c4):ik S' w' f l v:=by
 obtain⟨g,cap,z,u,t⟩:=h;refine⟨g,cap,z,u,fun e=>?_⟩;obtain⟨b,off,s,c,a⟩:=t e;refine⟨b,off,s,r b c,fun i hi=>?_⟩;obtain⟨c0,c1,c2,c3,c4,j,k,m,n,o,y⟩:=a i hi;exact⟨c0,c1,c2,c3,c4,(d.cell (p:=⟨b,off+i*5,Zn⟩) c).trans j,(d.cell (p:=⟨b,off+i*5+1,Zn⟩) c).trans k,(d.cell (p:=⟨b,off+i*5+2,Zn⟩) c).trans m,
  (d.cell (p:=⟨b,off+i*5+3,Zn⟩) c).trans n,(d.cell (p:=⟨b,off+i*5+4,Zn⟩) c).trans o,q _ _ _ _ _ _ (Zg hi) y⟩
theorem gE.keep(e:jn S w w')(d:∀b,S b->S' b):∀ {n:Nat} {t:T n} {c0 c1 c2 c3 c4:Zv},gE S w n t c0 c1 c2 c3 c4->gE S' w' n t c0 c1 c2 c3 c4:=by
 intro n;induction n with
 | zero=>intro t c0 c1 c2 c3 c4 h;exact h.elim
 | succ n o=>intro t c0 c1 c2 c3 c4 h;obtain⟨f,g,i,l,a,c,j,k⟩:=h;exact⟨f,g,i,l,a,c,j.keep e d,k.keep e d fun x _ _ _ _ _ _ m=>o m⟩
theorem ik.keepT{l:List (T n)}(h:ik S w (gE S w n) l v)(c:jn S w w')(a:∀b,S b->S' b):ik S' w' (gE S' w' n) l v:=
 h.keep c a fun _ _ _ _ _ _ _ d=>d.keep c a
theorem b5{b:Zw}(h:Below B a b)(d:B<=b.heap.size)(k:Bw b c):Below B a c:=h.trans (k.mono d)
theorem gE.shape:∀ {n:Nat} {t:T n} {c0 c1 c2 c3 c4:Zv},gE S w n t c0 c1 c2 c3 c4 ->
  ∃(s m:Int)(x:ZN)(a:ZO)(l c:Nat)(d:ZO)(r f:Nat),c0=Zi Zk s/\c1=Zi Zk m/\c2=Zt x/\c3=Zs a l c/\c4=Zs d r f:=by
 intro n;cases n with
 | zero=>intro t c0 c1 c2 c3 c4 h;exact h.elim
 | succ n=>intro t c0 c1 c2 c3 c4 h;obtain⟨g,i,j,v,p,q,⟨u,cap,k,-⟩,⟨e,b,o,-⟩⟩:=h;exact⟨_,_,_,_,_,_,_,_,_,g,i,j,k,o⟩
def pF(w:Zw)(b o:Nat)(g0 g1 g2 g3 g4:Zv):Zw:=
 ((((w.setCell ⟨b,o,Zn⟩ g0).setCell ⟨b,o+1,Zn⟩ g1).setCell ⟨b,o+2,Zn⟩ g2).setCell ⟨b,o+3,Zn⟩ g3).setCell ⟨b,o+4,Zn⟩ g4
def jN(o:Nat)(F:Nat->Zv)(g0 g1 g2 g3 g4:Zv)(j:Nat):Zv:=
 if j=o+4 then g4 else if j=o+3 then g3 else if j=o+2 then g2 else if j=o+1 then g1 else if j=o then g0 else F j
theorem zj(h:w.rowIs b t N F)(o:Nat)(g0 g1 g2 g3 g4:Zv):(pF w b o g0 g1 g2 g3 g4).rowIs b t N (jN o F g0 g1 g2 g3 g4):=
 ((((h.set o g0).set (o+1) g1).set (o+2) g2).set (o+3) g3).set (o+4) g4
theorem Cg(o:Nat)(F:Nat->Zv)(g0 g1 g2 g3 g4:Zv):jN o F g0 g1 g2 g3 g4 o=g0:=by simp[jN]
theorem Ch(o:Nat)(F:Nat->Zv)(g0 g1 g2 g3 g4:Zv):jN o F g0 g1 g2 g3 g4 (o+1)=g1:=by simp[jN]
theorem Ci(o:Nat)(F:Nat->Zv)(g0 g1 g2 g3 g4:Zv):jN o F g0 g1 g2 g3 g4 (o+2)=g2:=by simp[jN]
theorem Cj(o:Nat)(F:Nat->Zv)(g0 g1 g2 g3 g4:Zv):jN o F g0 g1 g2 g3 g4 (o+3)=g3:=by simp[jN]
theorem Ck(o:Nat)(F:Nat->Zv)(g0 g1 g2 g3 g4:Zv):jN o F g0 g1 g2 g3 g4 (o+4)=g4:=by simp[jN]
theorem iI(o:Nat)(F:Nat->Zv)(g0 g1 g2 g3 g4:Zv)(j:Nat)(a:j<o∨o+5<=j):jN o F g0 g1 g2 g3 g4 j=F j:=by unfold jN;rw[if_neg om,if_neg om,if_neg om,if_neg om,if_neg om]
theorem km(h:k≠b):(pF w b o g0 g1 g2 g3 g4).heap[k]?=w.heap[k]?:=by unfold pF;rw[ZD _ _ _ _ h,ZD _ _ _ _ h,ZD _ _ _ _ h,ZD _ _ _ _ h,ZD _ _ _ _ h]
theorem kZ:(pF w b o g0 g1 g2 g3 g4).heap.size=w.heap.size:=by simp[pF]
theorem ny(h:Below B a w)(c:B<=b):Below B a (pF w b o g0 g1 g2 g3 g4):=
 ((((h.setCell c g0).setCell c g1).setCell c g2).setCell c g3).setCell c g4
theorem mg(w:Zw)(z:Array Zv)(n:Nat)(t:TypeId):∃F,(w.alloc (Zc (madeCells z n) t)).rowIs w.heap.size t n F:=by have h:=World.rowIs_alloc w (madeCells z n) t (fun i=>(madeCells z n).getD i undef) (fun i hi=>by simp[hi]);rw[size_madeCells]at h;exact⟨_,h⟩
theorem rh{W w1:Zw}(a:Bw W w1):(∀b o,b<W.heap.size->w1.cell? ⟨b,o,Zn⟩=W.cell? ⟨b,o,Zn⟩)/\(∀b o,b<W.heap.size->w1.frozen? ⟨b,o,Zn⟩=W.frozen? ⟨b,o,Zn⟩):=
 ⟨fun b o h=>a.cell (p:=⟨b,o,Zn⟩) h,fun b o h=>a.frozen (p:=⟨b,o,Zn⟩) h⟩
def mf(c:UInt8):Bool:=decide (32<=(c.toNat:Int)/\(c.toNat:Int)<=126/\¬(c.toNat:Int)=34)
def kB(s:ZN):Bool:=decide (s.size<=60) && s.data.toList.all mf
def gC(c:UInt8):Bool:=decide ((97<=(c.toNat:Int)/\(c.toNat:Int)<=122)∨(48<=(c.toNat:Int)/\(c.toNat:Int)<=57))
def pI(c:UInt8):Bool:=decide (97<=(c.toNat:Int)/\(c.toNat:Int)<=122)
def gj(s:ZN):Bool:=decide (1<=s.size/\s.size<=8) && pI (s.data.toList.headD 0) && s.data.toList.all gC
def kN(a b:ZN):Bool:=Op.bytesLess a.toList b.toList
def i8(l:List ZN)(i:Nat):Bool:=gj (l.getD i Ze) && (i==0 || kN (l.getD (i-1) Ze) (l.getD i Ze))
def iP(l:List ZN)(k:Nat):Bool:=(List.range k).all (i8 l)
def gX(l:List ZN):Bool:=iP l l.length
theorem mw(l:List ZN)(k:Nat):iP l (k+1)=(iP l k && i8 l k):=by simp[iP,List.range_succ]
theorem lK(l:List ZN)(k:Nat)(h:k<l.length)(a:i8 l k=false):gX l=false:=by unfold gX iP;rw[List.all_eq_false];exact⟨k,List.mem_range.2 h,by simp[a]⟩
theorem lG{p:UInt8->Bool}(k:Nat)(h:k<s.size)(a:p s[k]=false):s.data.toList.all p=false:=by rw[List.all_eq_false];exact⟨s[k],by simp[ByteArray.getElem_eq_getElem_data],by simp[a]⟩
theorem kd{p:UInt8->Bool}(k:Nat)(h:k<s.size)(b:(s.data.toList.take k).all p=true)(a:p s[k]=true):(s.data.toList.take (k+1)).all p=true:=by rw[ZA (by simpa using h)];rw[List.all_append,b];simpa [ByteArray.getElem_eq_getElem_data] using a
theorem lH{p:UInt8->Bool}(k:Nat)(h:s.size<=k)(a:(s.data.toList.take k).all p=true):s.data.toList.all p=true:=by rw[List.take_of_length_le (by simpa using h)]at a;exact a
def gM(s m:Int)(x:ZN)(l:List ZN)(kl:Nat):Bool:=
 if s=1 then decide (-999999999<=m/\m<=999999999) && x.toList.isEmpty && ((l.length:Int)==0) && ((kl:Int)==0)
 else if s=2 then (m==0) && kB x && ((l.length:Int)==0) && ((kl:Int)==0)
 else if s=3 then decide (0<=m/\m<=1) && x.toList.isEmpty && ((l.length:Int)==0) && ((kl:Int)==0)
 else if s=4 then (m==0) && x.toList.isEmpty && ((l.length:Int)==0) && decide ((kl:Int)<=20)
 else if s=5 then (m==0) && x.toList.isEmpty && ((l.length:Int)==(kl:Int)) && gX l
 else if s=6 then (m==0) && x.toList.isEmpty && ((l.length:Int)==0) && decide ((kl:Int)<=1)
 else false
def Fc{α:Type}(t:Nd α):Bool:=gM t.sort t.num t.text t.names t.kids.length
def ie:(n:Nat)->T n->Int->Bool
 | 0,_,_=>false
 | n+1,t,d=>decide (d<=6) && Fc (show Nd (T n) from t) && (Nd.kids t).all (fun k=>ie n k (d+1))
def Cc(n:Nat)(t:T n):Bool:=ie n t 1 && decide (d9 n t<=120)
theorem Fs:∀(n:Nat)(t:T n)(d:Int),ie n t d=true->1<=d9 n t:=by
 intro n t d h;cases n with
 | zero=>simp[ie]at h
 | succ n=>simp only[d9];omega
structure Kd(α:Type) where
 sort:Int
 names:List ZN
 kids:List α
def K:Nat->Type
 | 0=>Empty
 | n+1=>Kd (K n)
def mm:(n:Nat)->K n->Nat
 | 0,_=>0
 | n+1,t=>jk (Kd.names t)+b4 (fun k=>mm n k+1) (Kd.kids t)
def fR:(n:Nat)->K n->Nat
 | 0,_=>0
 | n+1,t=>1+b4 (fun k=>fR n k) (Kd.kids t)
def fX(s:Int)(l:List ZN)(kl:Nat):Bool:=
 if s=1 then ((l.length:Int)==0) && ((kl:Int)==0)
 else if s=2 then ((l.length:Int)==0) && ((kl:Int)==0)
 else if s=3 then ((l.length:Int)==0) && ((kl:Int)==0)
 else if s=4 then ((l.length:Int)==0) && ((kl:Int)==1)
 else if s=5 then ((l.length:Int)==(kl:Int)) && gX l
 else if s=6 then ((l.length:Int)==0) && ((kl:Int)==1)
 else false
def lA{α:Type}(t:Kd α):Bool:=fX t.sort t.names t.kids.length
def fM:(n:Nat)->K n->Int->Bool
 | 0,_,_=>false
 | n+1,t,d=>decide (d<=6) && lA (show Kd (K n) from t) && (Kd.kids t).all (fun k=>fM n k (d+1))
def gF(n:Nat)(t:K n):Bool:=fM n t 1 && decide (fR n t<=40)
theorem sV:∀(n:Nat)(t:K n)(d:Int),fM n t d=true->1<=fR n t:=by
 intro n t d h;cases n with
 | zero=>simp[fM]at h
 | succ n=>simp only[fR];omega
def gD(n:Nat)(t:K n)(d:Int):Int:=if fM n t d=true/\fR n t<=40 then (fR n t:Int) else -1
theorem vL(n:Nat)(t:K (n+1))(d:Int)(h:(decide (d<=6) && lA (show Kd (K n) from t))=false):gD (n+1) t d = -1:=by unfold gD;rw[if_neg];rintro ⟨a,-⟩;simp only[fM,h,Bool.false_and]at a;cases a
theorem pE(n:Nat)(t:K (n+1))(d:Int)(k:Nat)(b:k<(Kd.kids t).length)(h:gD n (Kd.kids t)[k] (d+1)<0):gD (n+1) t d = -1:=by unfold gD;rw[if_neg];rintro ⟨a,c⟩;simp only[fM,Zq,ZC]at a;have e:=a.2 _ (Zg b);have f:=gK (fun k=>fR n k) (Kd.kids t) _ (Zg b);simp only[fR]at c;unfold gD at h;rw[if_pos ⟨e,om⟩]at h;omega
theorem oo(n:Nat)(t:K (n+1))(d:Int)(k:Nat)(h:40<1+b4 (fun k=>fR n k) ((Kd.kids t).take k)):gD (n+1) t d = -1:=by unfold gD;rw[if_neg];rintro ⟨-,a⟩;have:=iq (fun k=>fR n k) ((Kd.kids t).take k) ((Kd.kids t).drop k);rw[List.take_append_drop]at this;simp only[fR]at a;omega
theorem nw (n:Nat) (t:K (n+1)) (d:Int) (h:(decide (d<=6) && lA (show Kd (K n) from t))=true) (a:(Kd.kids t).all (fun k=>fM n k (d+1))=true) (b:1+b4 (fun k=>fR n k) (Kd.kids t)<=40) :
  gD (n+1) t d=1+(b4 (fun k=>fR n k) (Kd.kids t):Int):=by
 unfold gD;rw[if_pos];·simp only[fR];omega
 ·exact⟨by simp only[fM,h,a,Bool.and_self],by simp only[fR];omega⟩
theorem kY(n:Nat)(t:K n)(d:Int)(h:0<=gD n t d):gD n t d=fR n t/\fM n t d=true/\fR n t<=40:=by
 unfold gD at h ⊢;by_cases a:fM n t d=true/\fR n t<=40;·rw[if_pos a];exact⟨rfl,a⟩
 ·rw[if_neg a]at h;omega
theorem qR(n:Nat)(t:K n)(d:Int): -1<=gD n t d/\gD n t d<=40:=by unfold gD;split<;>omega
theorem Jn(n:Nat)(t:K n):decide (0<gD n t 1)=gF n t:=by
 unfold gD gF;by_cases a:fM n t 1=true/\fR n t<=40;·rw[if_pos a,a.1];have:=sV n t 1 a.1;simp[a.2];omega
 ·rw[if_neg a];cases hg:fM n t 1 with
  | false=>simp
  | true=>simp[hg]at a;simp;omega
theorem j9{p:α->Bool}{l:List α}(k:Nat)(h:k<l.length)(b:(l.take k).all p=true)(a:p l[k]=true):(l.take (k+1)).all p=true:=by rw[ZA h,List.all_append,b];simpa using a
def gO{α:Type}(S:ZP)(w:Zw)(R:α->Zv->Zv->Zv->Prop)(l:List α)(v:Zv):Prop:=
 ∃(a:ZO)(cap:Nat),v=Zs a l.length cap/\l.length<=maxLen /\
  (l≠[]->∃b off,a=Zo ⟨b,off,Zn⟩/\S b/\∀i (h:i<l.length),∃c0 c1 c2,w.cell? ⟨b,off+i*3,Zn⟩=Zo c0/\w.cell? ⟨b,off+i*3+1,Zn⟩=Zo c1 /\
   w.cell? ⟨b,off+i*3+2,Zn⟩=Zo c2/\R l[i] c0 c1 c2)
def a8(S:ZP)(w:Zw):(n:Nat)->K n->Zv->Zv->Zv->Prop
 | 0,_,_,_,_=>False
 | n+1,t,c0,c1,c2=>c0=Zi Zk (Kd.sort t)/\(Lit.int Zk (Kd.sort t)).wf=true/\fL S w (Kd.names t) c1/\gO S w (a8 S w n) (Kd.kids t) c2
theorem gO.keep {R f:α->Zv->Zv->Zv->Prop} {l:List α} (h:gO S w R l v) (d:jn S w w') (o:∀ b,S b->S' b)
  (n:∀x c0 c1 c2,x∈l->R x c0 c1 c2->f x c0 c1 c2):gO S' w' f l v:=by
 obtain⟨g,cap,u,s,r⟩:=h;refine⟨g,cap,u,s,fun e=>?_⟩;obtain⟨b,off,q,c,a⟩:=r e;refine⟨b,off,q,o b c,fun i hi=>?_⟩;obtain⟨c0,c1,c2,j,k,m,t⟩:=a i hi;exact⟨c0,c1,c2,(d.cell (p:=⟨b,off+i*3,Zn⟩) c).trans j,(d.cell (p:=⟨b,off+i*3+1,Zn⟩) c).trans k,(d.cell (p:=⟨b,off+i*3+2,Zn⟩) c).trans m,
  n _ _ _ _ (Zg hi) t⟩
theorem a8.keep(d:jn S w w')(c:∀b,S b->S' b):∀ {n:Nat} {t:K n} {c0 c1 c2:Zv},a8 S w n t c0 c1 c2->a8 S' w' n t c0 c1 c2:=by
 intro n;induction n with
 | zero=>intro t c0 c1 c2 h;exact h.elim
 | succ n j=>intro t c0 c1 c2 h;obtain⟨e,a,f,g⟩:=h;exact⟨e,a,f.keep d c,g.keep d c fun x _ _ _ _ i=>j i⟩
theorem gO.keepK{l:List (K n)}(h:gO S w (a8 S w n) l v)(c:jn S w w')(a:∀b,S b->S' b):gO S' w' (a8 S' w' n) l v:=
 h.keep c a fun _ _ _ _ _ d=>d.keep c a
theorem a8.shape:∀ {n:Nat} {t:K n} {c0 c1 c2:Zv},a8 S w n t c0 c1 c2 ->
  ∃(s:Int)(a:ZO)(l c:Nat)(d:ZO)(m f:Nat),c0=Zi Zk s/\c1=Zs a l c/\c2=Zs d m f:=by
 intro n;cases n with
 | zero=>intro t c0 c1 c2 h;exact h.elim
 | succ n=>intro t c0 c1 c2 h;obtain⟨g,k,⟨o,cap,i,-⟩,⟨e,b,j,-⟩⟩:=h;exact⟨_,_,_,_,_,_,_,g,i,j⟩
def iD(w:Zw)(b o:Nat)(g0 g1 g2:Zv):Zw:=
 ((w.setCell ⟨b,o,Zn⟩ g0).setCell ⟨b,o+1,Zn⟩ g1).setCell ⟨b,o+2,Zn⟩ g2
def nG(o:Nat)(F:Nat->Zv)(g0 g1 g2:Zv)(j:Nat):Zv:=
 if j=o+2 then g2 else if j=o+1 then g1 else if j=o then g0 else F j
theorem Gv(h:w.rowIs b t N F)(o:Nat)(g0 g1 g2:Zv):(iD w b o g0 g1 g2).rowIs b t N (nG o F g0 g1 g2):=
 ((h.set o g0).set (o+1) g1).set (o+2) g2
theorem Ij(o:Nat)(F:Nat->Zv)(g0 g1 g2:Zv):nG o F g0 g1 g2 o=g0:=by simp[nG]
theorem Ik(o:Nat)(F:Nat->Zv)(g0 g1 g2:Zv):nG o F g0 g1 g2 (o+1)=g1:=by simp[nG]
theorem Il(o:Nat)(F:Nat->Zv)(g0 g1 g2:Zv):nG o F g0 g1 g2 (o+2)=g2:=by simp[nG]
theorem ou(o:Nat)(F:Nat->Zv)(g0 g1 g2:Zv)(j:Nat)(a:j<o∨o+3<=j):nG o F g0 g1 g2 j=F j:=by unfold nG;rw[if_neg om,if_neg om,if_neg om]
theorem ia(h:k≠b):(iD w b o g0 g1 g2).heap[k]?=w.heap[k]?:=by unfold iD;rw[ZD _ _ _ _ h,ZD _ _ _ _ h,ZD _ _ _ _ h]
theorem iU:(iD w b o g0 g1 g2).heap.size=w.heap.size:=by simp[iD]
theorem js(h:Below B a w)(c:B<=b):Below B a (iD w b o g0 g1 g2):=
 ((h.setCell c g0).setCell c g1).setCell c g2
structure j8(w:Zw)(N:Nat)(a b c:Zv):Prop where
 c0:w.cell? ⟨N,0,Zn⟩=Zo a
 c1:w.cell? ⟨N,1,Zn⟩=Zo b
 c2:w.cell? ⟨N,2,Zn⟩=Zo c
theorem j8.keep{a b c:Zv}(h:j8 w N a b c)(d:Bw w w'):j8 w' N a b c:=by
 have e:N<w.heap.size:=by have h:=h.c0;exact Classical.byContradiction fun f=>by have:w.heap[N]?=Zn:=Array.getElem?_eq_none om;simp[World.cell?,this]at h
 exact⟨(d.cell (p:=⟨N,0,Zn⟩) e).trans h.c0,(d.cell (p:=⟨N,1,Zn⟩) e).trans h.c1,(d.cell (p:=⟨N,2,Zn⟩) e).trans h.c2⟩
theorem j8.new(w:Zw)(a b c:Zv)(t:TypeId):j8 (w.alloc (Zc #[a,b,c] t)) w.heap.size a b c:=
 ⟨by simp[go_sem],by simp[go_sem],by simp[go_sem]⟩
theorem a8.step{t:K n}(h:a8 S w n t c0 c1 c2)(c:Bd S w)(d:Bw w w'):a8 S w' n t c0 c1 c2/\(Bd S w'):=
 ⟨h.keep (a6 d c) (fun _ h=>h),fun b a=>Zd (c b a) d.size⟩
theorem IU:∀x:List UInt8,Op.bytesLess x x=false:=by
 intro x;induction x with
 | nil=>rfl
 | cons a r b=>simp[Op.bytesLess,b]
theorem Fk:∀x y z:List UInt8,Op.bytesLess x y=true->Op.bytesLess y z=true->Op.bytesLess x z=true:=by
 intro x;induction x with
 | nil=>
  intro y z e d;cases y with
  | nil=>simp[Op.bytesLess]at e
  | cons b y=>cases z with
   | nil=>simp[Op.bytesLess]at d
   | cons c z=>rfl
 | cons a x f=>
  intro y z e d;cases y with
  | nil=>simp[Op.bytesLess]at e
  | cons b y=>
   cases z with
   | nil=>simp[Op.bytesLess]at d
   | cons c z=>
    simp only[Op.bytesLess,Bool.or_eq_true,Zq,decide_eq_true_eq,beq_iff_eq]at e d ⊢;rcases e with e|⟨rfl,e⟩
    ·rcases d with d|⟨rfl,d⟩;·exact .inl (UInt8.lt_trans e d)
     ·exact .inl e
    ·rcases d with d|⟨rfl,d⟩;·exact .inl d
     ·exact .inr ⟨rfl,f y z e d⟩
theorem tD(a:ZN):kN a a=false:=IU _
theorem F8{a b c:ZN}(d:kN a b=true)(e:kN b c=true):kN a c=true:=Fk _ _ _ d e
theorem vF{a b:ZN}(h:kN a b=true):a≠b:=fun e=>by rw[e,tD]at h;cases h
def uv(l:List ZN):Prop:=l.Pairwise (fun a b=>kN a b=true)
theorem IQ(l:List ZN)(h:gX l=true):uv l:=by
 unfold gX iP at h;have a:∀i (b:i+1<l.length),kN l[i] l[i+1]=true:=by
  intro i b;have:=ZC.1 h (i+1) (List.mem_range.2 b);simp only[i8,Zq,Bool.or_eq_true]at this;rcases this.2 with c|c;·simp at c
  ·simpa [List.getD,b,show i<l.length by omega] using c
 have e:∀d i (b:i+d+1<l.length),kN l[i] l[i+d+1]=true:=by
  intro d;induction d with
  | zero=>intro i b;exact a i b
  | succ d k=>intro i b;exact F8 (k i om) (a (i+d+1) b)
 unfold uv;rw[List.pairwise_iff_getElem];intro i j hi g f;obtain⟨d,rfl⟩:∃d,j=i+d+1:=⟨j-i-1,om⟩;exact e d i g
theorem wo(h:uv l)(i j:Nat)(hi:i<l.length)(b:j<l.length)(e:l[i]=l[j]):i=j:=by
 unfold uv at h;rw[List.pairwise_iff_getElem]at h;rcases Nat.lt_trichotomy i j with a|a|a;·exact absurd e (vF (h i j hi b a))
 ·exact a
 ·exact absurd e.symm (vF (h j i b hi a))
theorem fJ{k:IntKind}{a b:Int}(h:a=b):Ending.returned (Zi k a)=Zr (Zi k b):=by rw[h]
theorem jQ{a b:ZN}(h:a=b):Ending.returned (Zt a)=Zr (Zt b):=by rw[h]
set_option maxRecDepth 100000
set_option maxHeartbeats 16000000
def mu(l:List ZN)(k:Nat)(a:Int):Int:=a-l.length-b4 (fun s:ZN=>s.size) (l.take k)
theorem Bg(l:List ZN):jk l=l.length+b4 (fun s:ZN=>s.size) l:=by
 induction l with
 | nil=>rfl
 | cons x r a=>simp only[jk,b4,Zy,a];omega
theorem pi (S:ZP) (l:List ZN) (v:Zv) (c:Int) (w:Zw) (A:fL S w l v) (E : -1<=c) (y:c<=1048576) :
  Calls prog 27 #[v,Zi Zk c] w fun e C=>e=Zr (Zi Zk (gi (jk l) c))/\C=w:=by
 obtain⟨D,cap,rfl,j,p,o⟩:=A;unfold maxLen at j;by_cases r:c-l.length<0;·go_in;go_wp2;go_ret;exact⟨fJ (by rw[gi,Bg,if_neg om]),rfl⟩
 go_in;go_wp2;go_loop [1,5] (fun a i=>∃k:Nat,k<=l.length/\i=Zi Zk k/\a=Zi Zk (mu l k c)/\0<=mu l k c) (fun _ i=>l.length-(intOf i).toNat);case atStart=>exact⟨0,ZE _,rfl,by simp[mu,b4],by simp[mu,b4];omega⟩
 case round=>
  obtain⟨k,G,rfl,rfl,t⟩:=hrel;have B:mu l k c<=1048576:=by unfold mu;omega
  by_cases f:k<l.length
  ·obtain⟨b,off,rfl,-,d⟩:=o (by intro h;rw[h]at f;simp at f);have z:=d k f;have q:=p l[k] (Zg f);have n:Hid (mu l (k+1) c=mu l k c-(l[k].size:Int)):=by show _=_;unfold mu;rw[fQ _ _ _ f];omega
   have x:Hid (mu l (k+1) c=c-l.length-b4 (fun s:ZN=>s.size) (l.take (k+1))/\b4 (fun s:ZN=>s.size) (l.take (k+1))<=b4 (fun s:ZN=>s.size) l):=by refine⟨rfl,?_⟩;have:=iq (fun s:ZN=>s.size) (l.take (k+1)) (l.drop (k+1));rw[List.take_append_drop]at this;omega
   unfold maxLen at q;clear o p d;generalize l[k]=s at *;generalize mu l k c=m at *;go_wp2;·go_ret;refine⟨fJ ?_,rfl⟩;have y:=n.out;have F:=x.out;rw[gi,Bg,if_neg om]
   ·go_round;case rel=>exact⟨k+1,om,by go_num,by rw[n.out],by rw[n.out];omega⟩
    case measure=>simp[intOf];omega
  ·have g:k=l.length:=by omega
   have u:Hid (mu l k c=gi (jk l) c):=by
    show _=_;have e:mu l k c=c-(jk l:Int):=by unfold mu;rw[Bg,g,List.take_length];omega
    rw[gi,if_pos om,e]
   clear g o p;go_wp2;go_ret;exact⟨fJ u.out,rfl⟩
def hY{α:Type}(f:α->Nat)(l:List α)(k:Nat)(a:Int):Int:=gi (l.length+b4 f (l.take k)) a
theorem kM(f:α->Nat)(l:List α):b4 (fun k=>f k+1) l=l.length+b4 f l:=by
 induction l with
 | nil=>rfl
 | cons x r a=>simp only[b4,Zy,a];omega
theorem pB(f:α->Nat)(l:List α)(k:Nat)(a:Int)(h:k<l.length):hY f l (k+1) a=gi (f l[k]) (hY f l k a):=by unfold hY;rw[kW,fQ _ _ _ h];congr 1;omega
structure vW(w:Zw)(N:Nat)(a b c d e:Zv):Prop where
 c0:w.cell? ⟨N,0,Zn⟩=Zo a
 c1:w.cell? ⟨N,1,Zn⟩=Zo b
 c2:w.cell? ⟨N,2,Zn⟩=Zo c
 c3:w.cell? ⟨N,3,Zn⟩=Zo d
 c4:w.cell? ⟨N,4,Zn⟩=Zo e
theorem vW.keep{a b c d e:Zv}(h:vW w N a b c d e)(f:Bw w w'):vW w' N a b c d e:=by
 have g:N<w.heap.size:=by have h:=h.c0;exact Classical.byContradiction fun i=>by have:w.heap[N]?=Zn:=Array.getElem?_eq_none om;simp[World.cell?,this]at h
 exact⟨kC f h.c0 g,kC f h.c1 g,kC f h.c2 g,kC f h.c3 g,kC f h.c4 g⟩
theorem vW.new(w:Zw)(a b c d e:Zv)(t:TypeId):vW (w.alloc (Zc #[a,b,c,d,e] t)) w.heap.size a b c d e:=
 ⟨by simp[go_sem],by simp[go_sem],by simp[go_sem],by simp[go_sem],by simp[go_sem]⟩
theorem gE.step{t:T n}(h:gE S w n t c0 c1 c2 c3 c4)(c:Bd S w)(d:Bw w w'):gE S w' n t c0 c1 c2 c3 c4/\(Bd S w'):=
 ⟨h.keep (a6 d c) (fun _ h=>h),fun b a=>Zd (c b a) d.size⟩
def bs(l:List UInt8):ZN:=⟨l.toArray⟩
theorem gA(a b:List UInt8):bs a++bs b=bs (a++b):=by apply ByteArray.ext;simp[bs]
theorem gq(l:List UInt8):(bs l).size=l.length:=by simp[bs,ByteArray.size]
theorem rk(s:ZN):bs s.data.toList=s:=by apply ByteArray.ext;simp[bs]
theorem jy(l:List UInt8):(bs l).data.toList=l:=by simp[bs]
def fP:List (List UInt8)->List UInt8
 | []=>[]
 | [x]=>x
 | x :: y :: r=>x++44 :: fP (y :: r)
theorem AB(l:List (List UInt8))(x:List UInt8)(h:l≠[]):fP (l++[x])=fP l++44 :: x:=by
 induction l with
 | nil=>exact absurd rfl h
 | cons a r c=>
  cases r with
  | nil=>simp[fP]
  | cons b r=>simp only[List.cons_append,fP]at c ⊢;rw[c zS];simp
def go:List ZN->List (List UInt8)->List (List UInt8)
 | a :: r,x :: s=>(a.data.toList++58 :: x) :: go r s
 | _,_=>[]
def uS(l:List (List UInt8)):Nat:=b4 (fun x=>x.length+10) l
theorem Dk(l:List (List UInt8)):(fP l).length<=uS l:=by
 induction l with
 | nil=>simp[fP]
 | cons a r c=>
  cases r with
  | nil=>simp[fP,uS,b4]
  | cons b r=>simp only[fP,uS,b4,Zx,Zy]at c ⊢;omega
theorem zX(a:List ZN)(l:List (List UInt8))(h:∀s,s∈a->s.size<=8):(fP (go a l)).length<=uS l:=by
 have c:∀(a:List ZN)(l:List (List UInt8)),(∀s,s∈a->s.size<=8)->(fP (go a l)).length+(if (go a l).isEmpty then 0 else 1)<=uS l:=by
  intro a;induction a with
  | nil=>intro l _;simp[go,fP]
  | cons s r f=>
   intro l h;cases l with
   | nil=>simp[go,fP]
   | cons x t=>
    have d:s.size<=8:=h s (Zj ..);have b:s.data.toList.length<=8:=by simpa using d
    have:=f t (fun u e=>h u (ZB _ e));simp only[go,uS,b4]at this ⊢;cases hz:go r t with
    | nil=>simp[fP];rw[hz]at this;simp[fP]at this;simp at b;omega
    | cons y z=>rw[hz]at this;simp only[fP,Zx,Zy]at this ⊢;simp at this ⊢;simp at b;omega
 have:=c a l h;omega
theorem xE(f g:α->Nat)(l:List α)(h:∀x,x∈l->f x<=g x):b4 f l<=b4 g l:=by
 induction l with
 | nil=>simp[b4]
 | cons a r c=>have d:=h a (Zj ..);have e:=c (fun x b=>h x (ZB _ b));simp only[b4];omega
theorem zy{β:Type}(f:β->Nat)(g:α->β)(l:List α):b4 f (l.map g)=b4 (fun x=>f (g x)) l:=by
 induction l with
 | nil=>rfl
 | cons a r b=>simp only[List.map_cons,b4,b]
theorem t6(c:Nat)(f:α->Nat)(l:List α):b4 (fun x=>c*f x) l=c*b4 f l:=by
 induction l with
 | nil=>simp[b4]
 | cons a r b=>simp only[b4,b,Nat.mul_add]
theorem jO(l:List ZN)(h:gX l=true):∀s,s∈l->s.size<=8:=by intro s b;obtain⟨i,hi,rfl⟩:=List.getElem_of_mem b;unfold gX iP at h;have:=ZC.1 h i (List.mem_range.2 hi);simp only[i8,Zq,gj,decide_eq_true_eq]at this;have a:=this.1.1.1.2;simpa [List.getD,hi] using a
theorem jh(l:List (List UInt8))(k:Nat):(fP (l.take k)).length<=(fP l).length:=by
 induction l generalizing k with
 | nil=>simp[fP]
 | cons a r c=>
  cases k with
  | zero=>simp[fP]
  | succ k=>
   rw[List.take_succ_cons];cases r with
   | nil=>simp[fP]
   | cons b r=>
    cases k with
    | zero=>simp[fP]
    | succ k=>have:=c (k+1);rw[List.take_succ_cons]at this ⊢;simp only[fP,Zx,Zy]at this ⊢;omega
theorem iC(l:List (List UInt8))(k:Nat)(h:k<l.length):fP (l.take (k+1))=(if k=0 then [] else fP (l.take k)++[44])++l[k]:=by
 rw[ZA h];by_cases a:k=0;·subst a;simp[fP]
 ·rw[if_neg a,AB _ _ (by intro e;have:=congrArg List.length e;rw[List.length_take,List.length_nil]at this;omega)];simp
theorem iz(a:List ZN)(l:List (List UInt8))(h:a.length=l.length):(go a l).length=l.length:=by
 induction a generalizing l with
 | nil=>cases l with
  | nil=>rfl
  | cons x r=>simp at h
 | cons s r b=>cases l with
  | nil=>simp at h
  | cons x t=>simp only[go,Zy]at h ⊢;rw[b t om]
theorem qr(a:List ZN)(l:List (List UInt8))(k:Nat)(b:k<a.length)(c:k<l.length)(d:k<(go a l).length):(go a l)[k]=a[k].data.toList++58 :: l[k]:=by
 induction a generalizing l k with
 | nil=>simp at b
 | cons s r e=>cases l with
  | nil=>simp at c
  | cons x t=>cases k with
   | zero=>rfl
   | succ k=>
    simp only[go,List.getElem_cons_succ]
    exact e t k (by simpa using b) (by simpa using c) (by simpa [go] using d)
def jb{α:Type}(f:α->List UInt8):List α->List UInt8
 | []=>[]
 | k :: _=>f k
def fI:(n:Nat)->K n->List UInt8
 | 0,_=>[]
 | n+1,t=>
  if Kd.sort t=1 then [110,117,109]
  else if Kd.sort t=2 then [116,101,120,116]
  else if Kd.sort t=3 then [102,108,97,103]
  else if Kd.sort t=4 then 91 :: jb (fI n) (Kd.kids t)++[93]
  else if Kd.sort t=6 then 63 :: jb (fI n) (Kd.kids t)
  else 123 :: fP (go (Kd.names t) ((Kd.kids t).map (fI n)))++[125]
theorem oA:∀(n:Nat)(t:K n)(d:Int),fM n t d=true->(fI n t).length+10<=24*fR n t:=by
 intro n;induction n with
 | zero=>intro t d h;simp[fM]at h
 | succ n o=>
  intro t d h;simp only[fM,Zq]at h;have a:fX (Kd.sort t) (Kd.names t) (Kd.kids t).length=true:=h.1.2;have m:=ZC.1 h.2;have f:uS ((Kd.kids t).map (fI n))<=24*b4 (fun x=>fR n x) (Kd.kids t):=by unfold uS;rw[zy,<- t6];exact xE _ _ _ fun x q=>o x (d+1) (m x q)
  have p:fR (n+1) t=1+b4 (fun x=>fR n x) (Kd.kids t):=rfl;rw[p];have e:(jb (fI n) (Kd.kids t)).length<=24*b4 (fun x=>fR n x) (Kd.kids t):=by
   cases hkk:Kd.kids t with
   | nil=>simp[jb]
   | cons k r=>have b:=o k (d+1) (m k (by rw[hkk];exact Zj ..));simp only[jb,b4];omega
  unfold fX at a;simp only[fI];by_cases b:Kd.sort t=1;·rw[if_pos b];simp;omega
  rw[if_neg b]at a ⊢;by_cases g:Kd.sort t=2;·rw[if_pos g];simp;omega
  rw[if_neg g]at a ⊢;by_cases i:Kd.sort t=3;·rw[if_pos i];simp;omega
  rw[if_neg i]at a ⊢;by_cases j:Kd.sort t=4;·rw[if_pos j];simp only[Zx,Zy,List.length_nil];omega
  rw[if_neg j]at a ⊢;by_cases c:Kd.sort t=6;·rw[if_pos c];simp only[Zy];omega
  rw[if_neg c];by_cases l:Kd.sort t=5;·rw[if_pos l]at a;simp only[Zq]at a;have:=zX (Kd.names t) ((Kd.kids t).map (fI n)) (jO _ a.2);simp only[Zx,Zy,List.length_nil];omega
  ·rw[if_neg l,if_neg c]at a;cases a
theorem Cu:∀(n:Nat)(t:K n)(d:Int),fM n t d=true->fI n t≠[]:=by
 intro n t d h;cases n with
 | zero=>simp[fM]at h
 | succ n=>
  simp only[fI];split;·simp
  split;·simp
  split;·simp
  split;·simp
  split;·simp
  ·simp
theorem iw{t:K n}(h:gF n t=true):fM n t 1=true/\fR n t<=40:=by simpa only[gF,Zq,decide_eq_true_eq] using h
theorem tZ{a b:ZN}(h:a=b):Ending.returned (Zt a)=Zr (Zt b):=by rw[h]
def jY(parts:List (List UInt8))(k:Nat):ZN:=bs (fP (parts.take k))
theorem zs(parts:List (List UInt8))(k:Nat)(h:k<parts.length)(a:¬k=0):jY parts (k+1)=jY parts k++bs [44]++bs parts[k]:=by unfold jY;rw[iC _ _ h,if_neg a,gA,gA]
theorem xD(parts:List (List UInt8))(h:0<parts.length):jY parts (0+1)=bs []++bs parts[0]:=by unfold jY;rw[iC _ _ h,if_pos rfl,gA]
theorem mE{p:UInt8->Bool}(a b:List UInt8)(h:∀c,c∈a->p c=true)(d:∀c r,b=c :: r->p c=false):(a++b).takeWhile p=a:=by
 induction a with
 | nil=>cases b with
  | nil=>rfl
  | cons c r=>simp[d c r rfl]
 | cons x r f=>rw[List.cons_append,List.takeWhile_cons,h x (Zj ..)];simp only[if_true];rw[f (fun c e=>h c (ZB _ e))]
theorem uH{p:UInt8->Bool}(a b:List UInt8)(h:∀c,c∈a->p c=true)(d:∀c r,b=c :: r->p c=false):(a++b).dropWhile p=b:=by
 induction a with
 | nil=>cases b with
  | nil=>rfl
  | cons c r=>simp[d c r rfl]
 | cons x r f=>rw[List.cons_append,List.dropWhile_cons,h x (Zj ..)];simp only[if_true];exact f (fun c e=>h c (ZB _ e))
def jC(c:UInt8)(s:List UInt8):Option (List UInt8×List UInt8):=
 if s.contains c then Zo (s.takeWhile (· != c),s.dropWhile (· != c)) else Zn
def gy(w s:List UInt8):Option (List UInt8):=if w.isPrefixOf s then Zo (s.drop w.length) else Zn
theorem jz{w s:List UInt8}(h:gy w s=Zo r):s=w++r:=by
 unfold gy at h;split at h
 ·next hp=>
  cases h
  obtain⟨t,rfl⟩:=List.isPrefixOf_iff_prefix.1 hp;simp
 ·cases h
theorem kw(w r:List UInt8):gy w (w++r)=Zo r:=by unfold gy;rw[if_pos (List.isPrefixOf_iff_prefix.2 ⟨r,rfl⟩)];simp
theorem gJ(c:UInt8)(r:List UInt8):gy [c] (c :: r)=Zo r:=kw [c] r
theorem rn(c d:UInt8)(r:List UInt8)(h:d≠c):gy [c] (d :: r)=Zn:=by unfold gy;rw[if_neg];simp only[List.isPrefixOf,Bool.and_true,beq_iff_eq];exact fun e=>h e.symm
theorem rL{c:UInt8}{s w:List UInt8}(h:jC c s=Zo (w,r)):∃e,r=c :: e/\s=w++c :: e/\∀x,x∈w->x≠c:=by
 unfold jC at h;split at h
 ·next hc=>
  cases h
  induction s with
  | nil=>simp at hc
  | cons x s k=>
   by_cases d:x=c;·subst d;exact⟨s,zS⟩
   ·have g:s.contains c=true:=by
     have a:c=x∨c∈s:=by simpa using hc
     rcases a with a|a;·exact absurd a.symm d
     ·simpa using a
    obtain⟨e,a,i,j⟩:=k g;have f:(x != c)=true:=by simpa using d
    refine⟨e,?_,?_,?_⟩;·rw[List.dropWhile_cons,f];simpa using a
    ·rw[List.takeWhile_cons,f];simpa using i
    ·intro y b;rw[List.takeWhile_cons,f]at b;simp only[if_true]at b;rcases List.mem_cons.1 b with rfl|b;·exact d
     ·exact j y b
 ·cases h
theorem pn(c:UInt8)(w r:List UInt8)(h:∀x,x∈w->x≠c):jC c (w++c :: r)=Zo (w,c :: r):=by
 unfold jC;rw[if_pos zS];have a:∀x,x∈w->(x != c)=true:=fun x d=>by simpa using h x d
 have b:∀x y,(c :: r)=x :: y->(x != c)=false:=by intro x y e;cases e;simp
 rw[mE w (c :: r) a b,uH w (c :: r) a b]
def jl(first:Bool):List (List UInt8)->List UInt8
 | []=>[]
 | x :: r=>(if first=true then x else 44 :: x)++jl false r
theorem qY(x:List UInt8)(r:List (List UInt8)):jl false (x :: r)=44 :: fP (x :: r):=by
 induction r generalizing x with
 | nil=>simp[jl,fP]
 | cons y r a=>rw[jl,a];simp[fP]
theorem pG(l:List (List UInt8)):jl true l=fP l:=by
 cases l with
 | nil=>rfl
 | cons x r=>
  cases r with
  | nil=>simp[jl,fP]
  | cons y r=>rw[jl,qY];simp[fP]
theorem od(h:gj s=true):∀c,c∈s.data.toList->gC c=true:=by simp only[gj,Zq]at h;exact ZC.1 h.2
theorem Gf{c:UInt8}(h:gC c=true):c≠58/\c≠125/\c≠44:=by refine⟨?_,?_,?_⟩<;>(rintro rfl;exact absurd h zC)
theorem tP(h:gX l=true):∀s,s∈l->gj s=true:=by intro s b;obtain⟨i,hi,rfl⟩:=List.getElem_of_mem b;unfold gX iP at h;have:=ZC.1 h i (List.mem_range.2 hi);simp only[i8,Zq]at this;have a:=this.1;rwa [List.getD_eq_getElem?_getD,List.getElem?_eq_getElem hi]at a
theorem El(c:UInt8)(l:List UInt8)(k:Nat)(h:∀x,x∈l.take k->x≠c)(a:l.drop k=c :: l.drop (k+1)):jC c l=Zo (l.take k,l.drop k):=by
 have e:l=l.take k++c :: l.drop (k+1):=by rw[<- a];simp
 conv=>lhs;rw[e]
 rw[pn c _ _ h,a]
theorem xH(c:UInt8)(l:List UInt8)(h:∀x,x∈l->x≠c):jC c l=Zn:=by
 unfold jC;rw[if_neg];intro a;have:c∈l:=by simpa using a
 exact h c this rfl
theorem lX(s:ZN)(i k:Nat):(s.extract i (i+k)).toList=(s.data.toList.drop i).take k:=by
 rw[ByteArray.toList_eq];have:(s.extract i (i+k)).data.toList=(s.data.toList.drop i).take k:=by simp[ByteArray.data_extract,List.extract_eq_take_drop]
 exact this
theorem Fx(s:ZN)(i:Nat)(w:ZN)(a:(s.extract i (i+w.size)).toList=w.toList):gy w.data.toList (s.data.toList.drop i)=Zo (s.data.toList.drop (i+w.size)):=by
 rw[lX s i w.size,ByteArray.toList_eq]at a;unfold gy;have b:w.data.toList <+: s.data.toList.drop i:=by rw[<- a];exact List.take_prefix _ _
 rw[if_pos (List.isPrefixOf_iff_prefix.2 b),List.drop_drop];simp
theorem BV(s:ZN)(i:Nat)(w:ZN)(hi:i<=s.size)(h:¬(i+w.size<=s.size/\(s.extract i (i+w.size)).toList=w.toList)):gy w.data.toList (s.data.toList.drop i)=Zn:=by unfold gy;rw[if_neg];intro c;obtain⟨t,a⟩:=List.isPrefixOf_iff_prefix.1 c;apply h;have b:=congrArg List.length a;simp at b;refine⟨om,?_⟩;rw[lX s i w.size,<- a,ByteArray.toList_eq];have:w.size=w.data.toList.length:=zS;rw[this,List.take_left]
theorem s5(s:ZN)(i k:Nat):s.extract i (i+k)=bs ((s.data.toList.drop i).take k):=by have:=lX s i k;rw[ByteArray.toList_eq]at this;rw[<- this,rk]
def jq{α:Type}(f:List UInt8->Option (α×List UInt8)):Nat->List ZN->List α->List UInt8->Option (List ZN×List α×List UInt8)
 | 0,_,_,_=>Zn
 | k+1,ns,acc,s=>
  match gy [125] s with
  | some r=>Zo (ns,acc,r)
  | none=>
   match (if ns.length=0 then Zo s else gy [44] s) with
   | none=>Zn
   | some a=>
    match jC 58 a with
    | none=>Zn
    | some (w,s2)=>
     match f (s2.drop 1) with
     | none=>Zn
     | some (t,r)=>jq f k (ns++[bs w]) (acc++[t]) r
def nI{α:Type}(f:List UInt8->Option (α×List UInt8))(a:List UInt8)(s:List UInt8):Option (α×List UInt8):=
 match f s with
 | none=>Zn
 | some (k,r)=>
  match gy a r with
  | none=>Zn
  | some b=>Zo (k,b)
def gd:(n:Nat)->List UInt8->Option (K n×List UInt8)
 | 0,_=>Zn
 | n+1,s=>
  match gy [110,117,109] s with
  | some r=>Zo ((⟨1,[],[]⟩:Kd (K n)),r)
  | none=>
  match gy [116,101,120,116] s with
  | some r=>Zo ((⟨2,[],[]⟩:Kd (K n)),r)
  | none=>
  match gy [102,108,97,103] s with
  | some r=>Zo ((⟨3,[],[]⟩:Kd (K n)),r)
  | none=>
  match gy [91] s with
  | some r=>
   match nI (gd n) [93] r with
   | none=>Zn
   | some (k,r')=>Zo ((⟨4,[],[k]⟩:Kd (K n)),r')
  | none=>
  match gy [63] s with
  | some r=>
   match nI (gd n) [] r with
   | none=>Zn
   | some (k,r')=>Zo ((⟨6,[],[k]⟩:Kd (K n)),r')
  | none=>
  match gy [123] s with
  | some r=>
   match jq (gd n) (r.length+1) [] [] r with
   | none=>Zn
   | some (ns,ks,r')=>Zo ((⟨5,ns,ks⟩:Kd (K n)),r')
  | none=>Zn
theorem kh(c:UInt8)(w:List UInt8)(d:UInt8)(r:List UInt8)(h:d≠c):gy (c :: w) (d :: r)=Zn:=by unfold gy;rw[if_neg];simp only[List.isPrefixOf,Zq,beq_iff_eq,not_and];exact fun e=>absurd e.symm h
theorem Fw(s:List UInt8):gy [] s=Zo s:=by simp[gy]
theorem yx (f:List UInt8->Option (α × List UInt8)) (txt:α->List UInt8) (n:∀ s t r,f s=Zo (t,r)->s=txt t++r)
  (fuel:Nat) (a:List ZN) (acc:List α) (s:List UInt8) (j:List ZN) (l:List α) (r:List UInt8) (h:jq f fuel a acc s=Zo (j,l,r)) :
  ∃d c,j=a++d/\l=acc++c/\d.length=c.length/\s=jl (decide (a.length=0)) (go d (c.map txt))++125 :: r:=by
 induction fuel generalizing a acc s with
 | zero=>simp[jq]at h
 | succ k o=>
  rw[jq]at h;cases h1:gy [125] s with
  | some A=>rw[h1]at h;simp only[Option.some.injEq,Prod.mk.injEq]at h;obtain⟨rfl,rfl,rfl⟩:=h;exact⟨[],[],zS,zS,rfl,by simpa [jl,go] using jz h1⟩
  | none=>
   rw[h1]at h;simp only at h;cases h2:(if a.length=0 then Zo s else gy [44] s) with
   | none=>rw[h2]at h;cases h
   | some v=>
    rw[h2]at h;simp only at h;cases hu:jC 58 v with
    | none=>rw[hu]at h;cases h
    | some x=>
    obtain⟨w,C⟩:=x;rw[hu]at h;simp only at h;obtain⟨y,z,m,D⟩:=rL hu;subst z;simp only[List.drop_succ_cons,List.drop_zero]at h;cases h3:f y with
    | none=>rw[h3]at h;cases h
    | some x=>
     obtain⟨t,B⟩:=x;rw[h3]at h;simp only at h;have i:=n _ _ _ h3;obtain⟨d,c,q,p,u,g⟩:=o _ _ _ h;have b:decide ((a++[bs w]).length=0)=false:=zS;rw[b]at g;refine⟨bs w :: d,t :: c,by simpa using q,by simpa using p,by simp[u],?_⟩;simp only[List.map_cons,go,jl,List.append_assoc,jy];by_cases e:a.length=0
     ·rw[if_pos e]at h2;cases h2
      simp only[e,decide_true,if_true,List.append_assoc,List.cons_append];rw[<- g,<- i];exact m
     ·rw[if_neg e]at h2;simp only[e,decide_false,Bool.false_eq_true,if_false,List.cons_append,List.append_assoc];rw[<- g,<- i,<- m];exact jz h2
theorem vH{f:List UInt8->Option (α×List UInt8)}{c s:List UInt8}{k:α}(h:nI f c s=Zo (k,r)):∃a,f s=Zo (k,a)/\a=c++r:=by
 unfold nI at h;cases h1:f s with
 | none=>rw[h1]at h;cases h
 | some x=>
  obtain⟨t,a⟩:=x;rw[h1]at h;simp only at h;cases h2:gy c a with
  | none=>rw[h2]at h;cases h
  | some b=>rw[h2]at h;cases h;exact⟨a,rfl,jz h2⟩
theorem xt:∀(n:Nat)(s:List UInt8)(k:K n)(r:List UInt8),gd n s=Zo (k,r)->s=fI n k++r:=by
 intro n;induction n with
 | zero=>intro s k r h;simp[gd]at h
 | succ n c=>
  intro s k r h;rw[gd]at h;split at h;·next r1 h1=>cases h;simpa [fI] using jz h1
  split at h;·next r1 h1=>cases h;simpa [fI] using jz h1
  split at h;·next r1 h1=>cases h;simpa [fI] using jz h1
  split at h
  ·next r1 h1=>
   cases h2:nI (gd n) [93] r1 with
   | none=>rw[h2]at h;cases h
   | some x=>
    obtain⟨a,g⟩:=x;rw[h2]at h;cases h
    obtain⟨j,b,e⟩:=vH h2;have:=c _ _ _ b;rw[jz h1,this,e];simp[fI,jb]
  split at h
  ·next r1 h1=>
   cases h2:nI (gd n) [] r1 with
   | none=>rw[h2]at h;cases h
   | some x=>
    obtain⟨a,g⟩:=x;rw[h2]at h;cases h
    obtain⟨j,b,e⟩:=vH h2;have:=c _ _ _ b;rw[jz h1,this,e];simp[fI,jb]
  split at h
  ·next r1 h1=>
   cases h2:jq (gd n) (r1.length+1) [] [] r1 with
   | none=>rw[h2]at h;cases h
   | some x=>
    obtain⟨p,l,g⟩:=x;rw[h2]at h;cases h
    obtain⟨o,i,f,a,m,d⟩:=yx _ (fI n) (fun s t r h=>c s t r h) _ _ _ _ _ _ _ h2;simp only[List.nil_append]at f a;subst f a;simp only[List.length_nil,decide_true,pG]at d;rw[jz h1,d];simp[fI]
  ·cases h
theorem s9 (f:List UInt8->Option (α × List UInt8)) (txt:α->List UInt8) (g:List α) (w:∀ k,k∈g->∀ a,f (txt k++a)=Zo (k,a))
  (b:List ZN) (o:∀s,s∈b->gj s=true) (d:b.length=g.length) (fuel:Nat) (h:List ZN) (acc:List α) (a:List UInt8) (j:g.length<fuel) :
  jq f fuel h acc (jl (decide (h.length=0)) (go b (g.map txt))++125 :: a)=Zo (h++b,acc++g,a):=by
 induction g generalizing fuel h acc b with
 | nil=>
  have:b=[]:=Zz (by simpa using d);subst this;cases fuel with
  | zero=>simp at j
  | succ k=>simp[jq,jl,go,gJ]
 | cons x g C=>
  cases b with
  | nil=>simp at d
  | cons m b=>
  cases fuel with
  | zero=>omega
  | succ k=>
   have v:=o m (Zj ..);have l:=od v;have B:1<=m.size:=by simp only[gj,Zq,decide_eq_true_eq]at v;exact v.1.1.1
   have step:=w x (Zj ..) (jl false (go b (g.map txt))++125 :: a);have rest:=C (fun k z=>w k (ZB _ z)) b (fun s A=>o s (ZB _ A)) (by simpa using d) k (h++[m]) (acc++[x]) (by simp at j;omega);have i:decide ((h++[m]).length=0)=false:=zS;rw[i]at rest;have p:=pn 58 m.data.toList (txt x++(jl false (go b (g.map txt))++125 :: a)) (fun c y=>(Gf (l c y)).1);have n:∃c r,m.data.toList=c :: r:=by
    cases hd:m.data.toList with
    | nil=>
     have D:m.data.toList.length=0:=by rw[hd];rfl
     have E:m.data.toList.length=m.size:=zS;omega
    | cons c r=>exact⟨c,r,rfl⟩
   obtain⟨c,r,e⟩:=n;have t:=Gf (l c (by rw[e];exact Zj ..));simp only[List.map_cons,go,jl,List.append_assoc];by_cases q:h.length=0
   ·simp only[q,decide_true,if_true,List.append_assoc,List.cons_append];rw[jq];have u:gy [125] (m.data.toList++58 :: (txt x++(jl false (go b (g.map txt))++125 :: a)))=Zn:=by rw[e,List.cons_append];exact rn _ _ _ t.2.1
    rw[u];simp only[q,if_true];rw[p];simp only[List.drop_succ_cons,List.drop_zero];rw[step];simp only[rk];rw[rest];simp
   ·simp only[q,decide_false,if_false,Bool.false_eq_true,List.append_assoc,List.cons_append];rw[jq,rn _ _ _ zC];simp only[q,if_false,gJ];rw[p];simp only[List.drop_succ_cons,List.drop_zero];rw[step];simp only[rk];rw[rest];simp
theorem zG(l:List (List UInt8))(h:∀x,x∈l->x≠[]):∀b,l.length<=(jl b l).length:=by
 induction l with
 | nil=>intro b;simp
 | cons x r d=>
  intro b;have e:=d (fun y a=>h y (ZB _ a)) false;have f:1<=x.length:=by
   cases x with
   | nil=>exact absurd rfl (h [] (Zj ..))
   | cons c y=>simp
  simp only[jl,Zx,Zy];split;·omega
  ·simp only[Zy];omega
theorem IC(a:List ZN)(l:List (List UInt8)):∀x,x∈go a l->x≠[]:=by
 induction a generalizing l with
 | nil=>intro x b;simp[go]at b
 | cons s r c=>
  intro x b;cases l with
  | nil=>simp[go]at b
  | cons y t=>
   simp only[go]at b;rcases List.mem_cons.1 b with rfl|b;·simp
   ·exact c t x b
theorem rW:∀(n:Nat)(k:K n)(d:Int)(a:List UInt8),fM n k d=true->gd n (fI n k++a)=Zo (k,a):=by
 intro n;induction n with
 | zero=>intro k d a h;simp[fM]at h
 | succ n z=>
  intro k d a h;simp only[fM,Zq]at h;have b:fX (Kd.sort k) (Kd.names k) (Kd.kids k).length=true:=h.1.2;have o:=ZC.1 h.2;obtain⟨l,na,f⟩:Kd (K n):=k;simp only at b o;unfold fX at b;have one:∀(c:List UInt8),(f.length:Int)=1->∃x,f=[x]/\∀a,nI (gd n) c (fI n x++(c++a))=Zo (x,a):=by
   intro c p;match f,p,o with
   | [x],_,o=>refine⟨x,rfl,fun a=>?_⟩;unfold nI;rw[z x (d+1) (c++a) (o x (Zj ..))];simp only[kw]
  by_cases m:l=1
  ·rw[if_pos m]at b;simp only[Zq,beq_iff_eq]at b;have i:na=[]:=Zz (by have:=b.1;omega);have j:f=[]:=Zz (by have:=b.2;omega);subst i j m;have e:fI (n+1) (⟨1,[],[]⟩:Kd (K n))=[110,117,109]:=by simp[fI]
   rw[e,gd,kw]
  rw[if_neg m]at b;by_cases q:l=2
  ·rw[if_pos q]at b;simp only[Zq,beq_iff_eq]at b;have i:na=[]:=Zz (by have:=b.1;omega);have j:f=[]:=Zz (by have:=b.2;omega);subst i j q;have e:fI (n+1) (⟨2,[],[]⟩:Kd (K n))=[116,101,120,116]:=by simp[fI]
   rw[e,gd,kw];simp[gy,List.isPrefixOf]
  rw[if_neg q]at b;by_cases r:l=3
  ·rw[if_pos r]at b;simp only[Zq,beq_iff_eq]at b;have i:na=[]:=Zz (by have:=b.1;omega);have j:f=[]:=Zz (by have:=b.2;omega);subst i j r;have e:fI (n+1) (⟨3,[],[]⟩:Kd (K n))=[102,108,97,103]:=by simp[fI]
   rw[e,gd,kw];simp[gy,List.isPrefixOf]
  rw[if_neg r]at b;by_cases s:l=4
  ·rw[if_pos s]at b;simp only[Zq,beq_iff_eq]at b;have i:na=[]:=Zz (by have:=b.1;omega);obtain⟨x,j,y⟩:=one [93] b.2;subst i j s;have e:fI (n+1) (⟨4,[],[x]⟩:Kd (K n))++a=91 :: (fI n x++([93]++a)):=by simp[fI,jb]
   rw[e,gd,kh 110 _ 91 _ zC,kh 116 _ 91 _ zC,kh 102 _ 91 _ zC,gJ];simp only[y]
  rw[if_neg s]at b;by_cases t:l=5
  ·rw[if_pos t]at b;simp only[Zq,beq_iff_eq]at b;have p:na.length=f.length:=by have:=b.1;omega
   subst t;have e:fI (n+1) (⟨5,na,f⟩:Kd (K n))++a=123 :: (jl true (go na (f.map (fI n)))++125 :: a):=by simp[fI,pG]
   have v:f.length<(jl true (go na (f.map (fI n)))++125 :: a).length+1:=by have m:=zG (go na (f.map (fI n))) (IC _ _) true;rw[iz _ _ (by simpa using p),List.length_map]at m;simp only[Zx,Zy];omega
   have g:=s9 (gd n) (fI n) f (fun k w a=>z k (d+1) a (o k w)) na (tP b.2) p _ [] [] a v;simp only[List.length_nil,decide_true,List.nil_append]at g;rw[e,gd,kh 110 _ 123 _ zC,kh 116 _ 123 _ zC,kh 102 _ 123 _ zC,kh 91 _ 123 _ zC,kh 63 _ 123 _ zC,gJ];simp only[g]
  rw[if_neg t]at b;by_cases u:l=6
  ·rw[if_pos u]at b;simp only[Zq,beq_iff_eq]at b;have i:na=[]:=Zz (by have:=b.1;omega);obtain⟨x,j,y⟩:=one [] b.2;subst i j u;have e:fI (n+1) (⟨6,[],[x]⟩:Kd (K n))++a=63 :: (fI n x++([]++a)):=by simp[fI,jb]
   rw[e,gd,kh 110 _ 63 _ zC,kh 116 _ 63 _ zC,kh 102 _ 63 _ zC,kh 91 _ 63 _ zC,gJ];simp only[y]
  ·rw[if_neg u]at b;cases b
def iZ(n:Nat)(s:ZN):Option (K n):=
 if s.size<=800 then
  match gd n s.data.toList with
  | some (k,[])=>if gF n k=true then Zo k else Zn
  | _=>Zn
 else Zn
theorem kr{k:K n}(h:iZ n s=Zo k):s.size<=800/\gF n k=true/\fI n k=s.data.toList:=by
 unfold iZ at h;split at h
 ·next h8=>
  split at h
  ·next k' hp=>
   split at h
   ·next hok=>
    cases h
    exact⟨h8,hok,by have:=xt n _ _ _ hp;simpa using this.symm⟩
   ·cases h
  ·cases h
 ·cases h
theorem Gz{k:K n}(b:s.size<=800)(a:gF n k=true)(c:fI n k=s.data.toList):iZ n s=Zo k:=by unfold iZ;rw[if_pos b,<- c];have:=rW n k 1 [] (iw a).1;rw[List.append_nil]at this;rw[this];simp only[a,if_true]
theorem b6{a b:Bool}(h:a=b):Ending.returned (Zb a)=Zr (Zb b):=by rw[h]
def sY(n:Int):Bool:=decide (48<=n/\n<=57)
theorem lr(x:Int)(w:Zw)(_h0:0<=x)(_h1:x<=255):Calls prog 115 #[Zi .u8 x] w fun e b=>e=Zr (Zb (sY x))/\b=w:=by
 by_cases h:48<=x<;>by_cases a:x<=57;all_goals
  go_in
  go_wp2
  go_ret
  exact⟨b6 (by simp[sY,h,a];try omega),rfl⟩
theorem Hp(s:ZN)(h:0<s.size):s.data.toList.headD 0=s[0]:=by
 cases hx:s.data.toList with
 | nil=>have:=congrArg List.length hx;simp at this;simp[this]at h
 | cons a r=>simp[ByteArray.getElem_eq_getElem_data,<- Array.getElem_toList,hx]
theorem AU(c:UInt8)(h:gC c=true):pI c = !sY c.toNat:=by
 unfold gC at h;rw[decide_eq_true_eq]at h;unfold pI sY;rcases h with h|h;·rw[decide_eq_true h,decide_eq_false om];rfl
 ·rw[decide_eq_false om,decide_eq_true h];rfl
theorem Gb(s:ZN)(b:1<=s.size)(c:s.size<=8):gj s=(!sY (s[0].toNat:Int) && s.data.toList.all gC):=by
 unfold gj;rw[Hp s om];cases hall:s.data.toList.all gC with
 | false=>simp
 | true=>have a:gC s[0]=true:=ZC.1 hall _ (by simp[ByteArray.getElem_eq_getElem_data]);rw[AU _ a];simp[b,c]
theorem kV(s:ZN)(w:Zw)(z:s.size<=maxLen):Calls prog 81 #[Zt s] w fun e m=>e=Zr (Zb (gj s))/\m=w:=by
 unfold maxLen at z;by_cases p:1<=s.size/\s.size<=8
 ·obtain⟨q,r⟩:=p;have v:Hid (gj s=(!sY (s[0].toNat:Int) && s.data.toList.all gC)):=Gb s q r;have d:∀k (h:k<s.size),(s[k].toNat:Int)<=255:=fun k h=>by have:=s[k].toNat_lt;omega
  have g:=d 0 om;cases hd:sY (s[0].toNat:Int) with
  | true=>
   have j:Hid (gj s=false):=by show _=_;rw[v.out,hd];simp
   clear d;go_in;go_wp2_with fail;refine (lr _ _ om g).mono ?_;rintro e m ⟨rfl,rfl⟩;rw[hd];go_wp2;go_ret;exact⟨b6 j.out.symm,rfl⟩
  | false=>
   have u:=a7 hd;have x:=a7 d;clear d hd;go_in;go_wp2_with fail;refine (lr _ _ om g).mono ?_;rintro e m ⟨rfl,rfl⟩;rw[u.out];go_wp2;go_loop [19] (fun i=>∃k:Nat,k<=s.size/\i=Zi Zk k/\(s.data.toList.take k).all gC=true) (fun i=>s.size-(intOf i).toNat);case atStart=>exact⟨0,ZE _,rfl,zS⟩
   case round=>
    obtain⟨k,A,rfl,f⟩:=hrel;have o:=a7 f;clear f;by_cases c:k<s.size
    ·have l:=x.out k c;have a:Hid (sY (s[k].toNat:Int)=decide (48<=(s[k].toNat:Int)/\(s[k].toNat:Int)<=57)):=rfl;cases hb:gC s[k] with
     | true=>
      have t:Hid (gC s[k]=true):=hb;unfold gC at hb;rw[decide_eq_true_eq]at hb;rcases hb with ⟨n,y⟩|⟨n,y⟩
      ·have b:sY (s[k].toNat:Int)=false:=by rw[a.out];exact decide_eq_false om
       go_wp2_with (go_at_call 115;refine (lr _ _ om l).mono ?_;rintro e m ⟨rfl,rfl⟩;rw[b]);go_round;case rel=>exact⟨k+1,om,by go_num,kd k c o.out t.out⟩
       case measure=>simp[intOf];omega
      ·have b:sY (s[k].toNat:Int)=true:=by rw[a.out];exact decide_eq_true ⟨om,om⟩
       go_wp2_with (go_at_call 115;refine (lr _ _ om l).mono ?_;rintro e m ⟨rfl,rfl⟩;rw[b]);go_round;case rel=>exact⟨k+1,om,by go_num,kd k c o.out t.out⟩
       case measure=>simp[intOf];omega
     | false=>
      have j:Hid (gj s=false):=by show _=_;rw[gj,lG k c hb];simp
      unfold gC at hb;rw[decide_eq_false_iff_not]at hb;have b:sY (s[k].toNat:Int)=false:=by rw[a.out];exact decide_eq_false om
      rcases (show (s[k].toNat:Int)<97∨122<(s[k].toNat:Int) by omega) with n|n;all_goals
       clear hb
       go_wp2_with (go_at_call 115;refine (lr _ _ om l).mono ?_;rintro e m ⟨rfl,rfl⟩;rw[b])
       go_ret
       exact⟨b6 j.out.symm,rfl⟩
    ·have j:Hid (gj s=true):=by show _=_;rw[v.out,u.out,lH k om o.out];simp
     go_wp2;go_ret;exact⟨b6 j.out.symm,rfl⟩
 ·have j:Hid (gj s=false):=by show _=_;rw[gj,decide_eq_false p];simp
  rcases (show s.size<1∨8<s.size by omega) with n|n;all_goals
   clear p
   go_in
   go_wp2
   go_ret
   exact⟨b6 j.out.symm,rfl⟩
theorem mM (S:ZP) (l:List ZN) (v:Zv) (w:Zw) (B:fL S w l v) :
  Calls prog 192 #[v] w fun e g=>e=Zr (Zb (gX l))/\g=w:=by
 obtain⟨C,cap,rfl,t,o,n⟩:=B;unfold maxLen at t;go_in;go_wp2;go_loop [7] (fun i=>∃k:Nat,k<=l.length/\i=Zi Zk k/\iP l k=true) (fun i=>l.length-(intOf i).toNat);case atStart=>exact⟨0,ZE _,rfl,by simp[iP]⟩
 case round=>
  obtain⟨k,D,rfl,m⟩:=hrel;have x:Hid (iP l k=true):=m;clear m;by_cases d:k<l.length
  ·obtain⟨b,off,rfl,z,a⟩:=n (by intro h;rw[h]at d;simp at d);have f0:=a k d;have u:=o l[k] (Zg d);have c:l.getD k Ze=l[k]:=by simp[List.getD,d]
   cases hnm:gj l[k] with
   | false=>
    have q:Hid (gX l=false):=lK l k d (by simp only[i8,c,hnm,Bool.false_and]);have p:Hid (∀w,Calls prog 81 #[Zt l[k]] w fun e g=>e=Zr (Zb false)/\g=w):=fun w=>by rw[<- hnm];exact kV _ w u
    clear n o a c hnm;generalize l[k]=s at *;go_wp2_with (go_at_call 81;refine (p.out _).mono ?_;rintro e g ⟨rfl,rfl⟩);go_ret;exact⟨b6 q.out.symm,rfl⟩
   | true=>
    have p:Hid (∀w,Calls prog 81 #[Zt l[k]] w fun e g=>e=Zr (Zb true)/\g=w):=fun w=>by rw[<- hnm];exact kV _ w u
    rcases Nat.eq_zero_or_pos k with rfl|A
    ·have y:Hid (iP l (0+1)=true):=by show _=_;rw[mw,x.out,i8,c,hnm];rfl
     clear n o a c hnm;rw[Nat.add_zero]at f0;generalize l[0]=s at *;go_wp2_with (go_at_call 81;refine (p.out _).mono ?_;rintro e g ⟨rfl,rfl⟩);go_round;case rel=>exact⟨0+1,om,by go_num,y.out⟩
     case measure=>simp[intOf];omega
    ·obtain⟨j,rfl⟩:∃j,k=j+1:=⟨k-1,om⟩;have f1:=a j om;have f:l.getD j Ze=l[j]:=by simp[List.getD,show j<l.length by omega]
     cases hlt':kN l[j] l[j+1] with
     | false=>have q:Hid (gX l=false):=lK l (j+1) d (by simp only[i8,c,Nat.add_sub_cancel,f,hlt'];simp);unfold kN at hlt';clear n o a c f hnm;generalize l[j]=r at *;generalize l[j+1]=s at *;go_wp2_with (go_at_call 81;refine (p.out _).mono ?_;rintro e g ⟨rfl,rfl⟩);go_ret;exact⟨b6 q.out.symm,rfl⟩
     | true=>
      have y:Hid (iP l (j+1+1)=true):=by show _=_;rw[mw,x.out,i8,c,hnm,Nat.add_sub_cancel,f,hlt'];simp
      unfold kN at hlt';clear n o a c f hnm;generalize l[j]=r at *;generalize l[j+1]=s at *;go_wp2_with (go_at_call 81;refine (p.out _).mono ?_;rintro e g ⟨rfl,rfl⟩);go_round;case rel=>exact⟨j+1+1,om,by go_num,y.out⟩
      case measure=>simp[intOf];omega
  ·have q:Hid (gX l=true):=by show _=_;rw[gX,show l.length=k by omega];exact x.out
   clear n o;go_wp2;go_ret;exact⟨b6 q.out.symm,rfl⟩
theorem py (s:Int) (l:List ZN) (ka:ZO) (kl kc:Nat) (w:Zw) (na:ZO) (b:Nat) (a:s=1∨s=2∨s=3) :
  Calls prog 150 #[Za #[Zi Zk s,Zs na l.length b,Zs ka kl kc]] w fun e c=>e=Zr (Zb (((l.length:Int)==0) && ((kl:Int)==0)))/\Bw w c:=by
 rcases a with rfl|rfl|rfl;all_goals
  go_in
  go_wp2_with fail
  all_goals
   go_ret
   exact⟨b6 (by simp_all),gx _ _⟩
theorem vC (s:Int) (l:List ZN) (ka:ZO) (kl kc:Nat) (w:Zw) (na:ZO) (b:Nat) (a:s=4∨s=6) :
  Calls prog 150 #[Za #[Zi Zk s,Zs na l.length b,Zs ka kl kc]] w fun e c=>e=Zr (Zb (((l.length:Int)==0) && ((kl:Int)==1)))/\Bw w c:=by
 rcases a with rfl|rfl;all_goals
  go_in
  go_wp2_with fail
  all_goals
   go_ret
   exact⟨b6 (by simp_all),gx _ _⟩
theorem AC (l:List ZN) (ka:ZO) (kl kc:Nat) (w:Zw) (na:ZO) (c:Nat) (S:ZP) (i:fL S w l (Zs na l.length c)) (g:Bd S w) :
  Calls prog 150 #[Za #[Zi Zk 5,Zs na l.length c,Zs ka kl kc]] w fun e j=>e=Zr (Zb (((l.length:Int)==(kl:Int)) && gX l))/\Bw w j:=by
 by_cases d:l.length=kl;·subst d;have a:=(Below.refl w.heap.size w).alloc (Zl _) (Zc #[Zi Zk 5,Zs na l.length c,Zs ka l.length kc] 31);have b:=i.keep (a6 a g) (fun _ h=>h);have k:Hid (Calls prog 192 #[Zs na l.length c] _ _):=mM S l _ _ b;have d:((l.length:Int)==(l.length:Int))=true:=zS;clear i b g;go_in;go_wp2_with fail;refine k.out.mono ?_;rintro e j ⟨rfl,rfl⟩;go_wp2;go_ret;exact⟨zS,a⟩
 ·have f:((l.length:Int)==(kl:Int))=false:=by simp;omega
  rw[f];clear d;go_in;go_wp2;go_ret;exact⟨rfl,gx _ _⟩
theorem yC (s:Int) (l:List ZN) (ka:ZO) (kl kc:Nat) (w:Zw) (na:ZO) (b:Nat)
  (d:(s==1)=false) (f:(s==2)=false) (g:(s==3)=false) (h:(s==4)=false) (i:(s==5)=false) (j:(s==6)=false) :
  Calls prog 150 #[Za #[Zi Zk s,Zs na l.length b,Zs ka kl kc]] w fun e c=>e=Zr (Zb false)/\Bw w c:=by have a:=(Below.refl w.heap.size w).alloc (Zl _) (Zc #[Zi Zk s,Zs na l.length b,Zs ka kl kc] 31);go_in;go_wp2;go_ret;exact⟨rfl,a⟩
theorem Dl (s:Int) (l:List ZN) (ka:ZO) (kl kc:Nat) (w:Zw) (na:ZO) (a:Nat)
  (S:ZP) (j:fL S w l (Zs na l.length a)) (i:Bd S w) :
  Calls prog 150 #[Za #[Zi Zk s,Zs na l.length a,Zs ka kl kc]] w fun e k=>e=Zr (Zb (fX s l kl))/\Bw w k:=by
 unfold fX;by_cases b:s=1;·subst b;rw[if_pos rfl];exact py 1 l ka kl kc w na a (.inl rfl)
 rw[if_neg b];by_cases c:s=2;·subst c;rw[if_pos rfl];exact py 2 l ka kl kc w na a (.inr (.inl rfl))
 rw[if_neg c];by_cases d:s=3;·subst d;rw[if_pos rfl];exact py 3 l ka kl kc w na a (.inr (.inr rfl))
 rw[if_neg d];by_cases f:s=4;·subst f;rw[if_pos rfl];exact vC 4 l ka kl kc w na a (.inl rfl)
 rw[if_neg f];by_cases g:s=5;·subst g;rw[if_pos rfl];exact AC l ka kl kc w na a S j i
 rw[if_neg g];by_cases h:s=6;·subst h;rw[if_pos rfl];exact vC 6 l ka kl kc w na a (.inr rfl)
 rw[if_neg h];exact yC s l ka kl kc w na a (by simp[b]) (by simp[c]) (by simp[d]) (by simp[f]) (by simp[g]) (by simp[h])
structure b8(bb:Nat)(w w':Zw):Prop where
 os:w'.os=w.os
 tape:w'.tape=w.tape
 output:w'.output=w.output
 size:w.heap.size<=w'.heap.size
 block:∀k,k<w.heap.size->k≠bb->w'.heap[k]?=w.heap[k]?
theorem b8.refl(bb:Nat)(w:Zw):b8 bb w w:=⟨rfl,rfl,rfl,Zl _,fun _ _ _=>rfl⟩
theorem b8.trans{b:Zw}(h:b8 bb a b)(k:b8 bb b c):b8 bb a c:=
 ⟨k.os.trans h.os,k.tape.trans h.tape,k.output.trans h.output,Nat.le_trans h.size k.size,fun i hi d=>(k.block i (Zd hi h.size) d).trans (h.block i hi d)⟩
theorem b8.of_below{b:Zw}(h:Bw a b):b8 bb a b:=⟨h.os,h.tape,h.output,h.size,fun k c _=>h.block k c⟩
theorem b8.set(bb o:Nat)(w:Zw)(v:Zv):b8 bb w (w.setCell ⟨bb,o,Zn⟩ v):=⟨rfl,rfl,rfl,zS,fun k _ a=>ZD _ _ _ _ a⟩
theorem b8.alloc(bb:Nat)(w:Zw)(o:Obj):b8 bb w (w.alloc o):=.of_below (gx _ o)
theorem b8.below{b:Zw}(h:b8 bb a b)(c:B<=bb)(d:B<=a.heap.size):Below B a b:=⟨h.os,h.tape,h.output,h.size,fun k e=>h.block k om om⟩
def lm(w:Zw)(a:Nat)(p:Int):Prop:=w.heap[a]?=Zo (Zc #[Zi Zk p] 3 (0,0))
theorem lm.cell(h:lm w pb p):w.cell? ⟨pb,0,Zn⟩=Zo (Zi Zk p):=by unfold lm at h;simp[World.cell?,h]
theorem lm.free(h:lm w pb p):w.frozen? ⟨pb,0,Zn⟩=false:=by unfold lm at h;simp[World.frozen?,h]
theorem lm.lt(h:lm w pb p):pb<w.heap.size:=by unfold lm at h;exact (Array.getElem?_eq_some_iff.1 h).1
theorem lm.set(h:lm w pb p)(q:Int):lm (w.setCell ⟨pb,0,Zn⟩ (Zi Zk q)) pb q:=by unfold lm at h ⊢;simp[World.setCell,Array.getElem?_modify,h]
theorem lm.new(w:Zw)(p:Int):lm (w.alloc (Zc #[Zi Zk p] 3)) w.heap.size p:=by show (w.heap.push _)[w.heap.size]?=_;simp
theorem lm.keep(h:lm w pb p)(a:Bw w w'):lm w' pb p:=(a.block pb h.lt).trans h
theorem b8.same(h:b8 pb w w')(a:∀b,S b->b<w.heap.size/\b≠pb):jn S w w':=fun b c=>h.block b (a b c).1 (a b c).2
theorem b8.drew(h:b8 pb w w'):b8 pb w w'.drew:=⟨h.os,h.tape,h.output,h.size,h.block⟩
theorem b8.cell(h:b8 pb w w')(e:w.cell? ⟨b,o,Zn⟩=Zo v)(d:b≠pb):w'.cell? ⟨b,o,Zn⟩=Zo v:=by
 have c:b<w.heap.size:=Classical.byContradiction fun f=>by have:w.heap[b]?=Zn:=Array.getElem?_eq_none om;simp[World.cell?,this]at e
 exact (World.cell?_of_block (w:=w) (w':=w') (a:=⟨b,o,Zn⟩) (h.block b c d)).trans e
theorem d8(h:w.cell? ⟨b,o,Zn⟩=Zo v):b<w.heap.size:=
 Classical.byContradiction fun a=>by
  have:w.heap[b]?=Zn:=Array.getElem?_eq_none om
  simp[World.cell?,this]at h
structure GV(w:Zw)(pb mb ab:Nat)(p M:Int)(F:Nat):Prop where
 parts:lm w pb p
 max:w.cell? ⟨mb,0,Zn⟩=Zo (Zi Zk M)
 acc:w.cell? ⟨ab,0,Zn⟩=Zo (.func (.func F) #[] #[])
 nm:mb≠pb
 na:ab≠pb
theorem GV.keep{c a:Nat}{q M:Int}{F:Nat}(h:GV w pb c a p M F)(b:b8 pb w w')(d:lm w' pb q):GV w' pb c a q M F:=
 ⟨d,b.cell h.max h.nm,b.cell h.acc h.na,h.nm,h.na⟩
theorem E3 (S:ZP) (s:Int) (l:List ZN) (na ka:ZO) (m kl kc a u o:Nat) (d p:Int) (w:Zw) (x:fL S w l (Zs na l.length m)) (q:∀ b,S b->b<w.heap.size/\b≠a)
  (f:GV w a u o p 40 150) (D:0<=p) (E:p<=40) :
  Calls prog 191 #[Za #[Zi Zk s,Zs na l.length m,Zs ka kl kc],Zi Zk d,Zp (Zo ⟨a,0,Zn⟩),Zp (Zo ⟨u,0,Zn⟩),Zp (Zo ⟨o,0,Zn⟩)] w
   fun e n=>e=Zr (Zb (decide (p+1<=40) && decide (d<=6) && fX s l kl))/\lm n a (p+1)/\b8 a w n:=by
 have B:=f.parts.lt;have k:b8 a w (w.setCell ⟨a,0,Zn⟩ (Zi Zk (p+1))):=b8.set a 0 _ (Zi Zk (p+1));have c:=k.trans (b8.alloc a _ (Zc #[Zi Zk s,Zs na l.length m,Zs ka kl kc] 31));have i:lm ((w.setCell ⟨a,0,Zn⟩ (Zi Zk (p+1))).alloc (Zc #[Zi Zk s,Zs na l.length m,Zs ka kl kc] 31)) a (p+1):=(f.parts.set (p+1)).keep (gx _ _);have j:=x.keep (c.same q) (fun _ h=>h);have v:Hid (Calls prog 150 _ _ _):=Dl s l ka kl kc _ na m S j (fun b A=>by have:=(q b A).1;simp;omega);have c0:=f.parts.cell;have f0:=f.parts.free;have F:=f.max;have a0:=f.acc;have nm:=f.nm;have G:=f.na;have I:u<w.heap.size:=d8 F;have H:o<w.heap.size:=d8 a0;have C:w.heap.size≠a:=om;clear x j f k q;by_cases y:p+1<=40
 ·by_cases z:d<=6;·go_in;go_wp2_with fail;refine v.out.mono ?_;rintro e n ⟨rfl,g⟩;have t:lm n a (p+1):=(g.block a zE).trans i;have r:=c.trans (b8.of_below (bb:=a) g);clear g v;go_wp2;go_ret;exact⟨b6 (by simp[y,z]),t,r⟩
  ·go_in;go_wp2;go_ret;exact⟨b6 (by rw[decide_eq_false (show ¬d<=6 by omega)];simp),i,c⟩
 ·go_in;go_wp2;go_ret;exact⟨b6 (by rw[decide_eq_false (show ¬p+1<=40 by omega)];simp),i,c⟩
def kt(n:Nat)(t:K n)(d p:Int)(a:Nat)(w:Zw)(e:Ending)(w':Zw):Prop:=
 b8 a w w' /\ ∃r,e=Zr (Zb r)/\(r=true->fM n t d=true/\p+(fR n t:Int)<=40/\lm w' a (p+fR n t))/\(r=false->¬(fM n t d=true/\p+(fR n t:Int)<=40))
def J1(c b a:Nat):Zv:=.func (.func 191) #[] #[Zp (Zo ⟨c,0,Zn⟩),Zp (Zo ⟨b,0,Zn⟩),Zp (Zo ⟨a,0,Zn⟩)]
def qz(n:Nat):Prop:=∀(S:ZP)(t:K n)(c0 c1 c2:Zv)(d p:Int)(a e c:Nat)(w:Zw),a8 S w n t c0 c1 c2->(∀b,S b->b<w.heap.size/\b≠a)->GV w a e c p 40 150->0<=p->p<=40->1<=d->d<=7 ->
 Calls prog 190 #[Za #[c0,c1,c2],Zi Zk d,J1 a e c] w (kt n t d p a w)
theorem Dm(a b c:Zv)(f:∃x l k,c=Zs x l k)(w:Zw):Calls prog 285 #[Za #[a,b,c]] w fun e g=>e=Zr c/\Bw w g:=by obtain⟨x,l,k,rfl⟩:=f;have d:=(Below.refl w.heap.size w).alloc (Zl _) (Zc #[a,b,Zs x l k] 31);go_in;go_wp2;go_ret;exact⟨rfl,d⟩
theorem vT {n:Nat} {t:K (n+1)} {d p:Int} (k:Nat) (b:k<(Kd.kids t).length)
  (h:¬(fM n (Kd.kids t)[k] (d+1)=true/\p+1+(b4 (fun x=>fR n x) ((Kd.kids t).take k):Int)+(fR n (Kd.kids t)[k]:Int)<=40)):¬(fM (n+1) t d=true/\p+(fR (n+1) t:Int)<=40):=by rintro ⟨a,f⟩;apply h;simp only[fM,Zq,ZC]at a;refine⟨a.2 _ (Zg b),?_⟩;have e:=fQ (fun x=>fR n x) (Kd.kids t) k b;have c:=iq (fun x=>fR n x) ((Kd.kids t).take (k+1)) ((Kd.kids t).drop (k+1));rw[List.take_append_drop]at c;simp only[fR]at f;omega
theorem BB(n:Nat)(hn:qz n):qz (n+1):=by
 intro S t c0 c1 c2 d p v mb ab w ht L f aj ak an ao;obtain⟨rfl,-,h3,h4⟩:=ht;obtain⟨na,nc,rfl,-,-,-⟩:=id h3;obtain⟨ka,kc,rfl,ac,-⟩:=id h4;unfold maxLen at ac;have j:=f.parts.lt;generalize hs:Kd.sort t=s at *;have N:=(Below.refl w.heap.size w).alloc (Zl _) (Zc #[Zi Zk s,Zs na (Kd.names t).length nc,Zs ka (Kd.kids t).length kc] 31);have I:b8 v w (w.alloc (Zc #[Zi Zk s,Zs na (Kd.names t).length nc,Zs ka (Kd.kids t).length kc] 31)):=b8.of_below N;have Y:=h3.keep (I.same L) (fun _ h=>h);have W:Hid (Calls prog 191 _ _ _):=E3 S s (Kd.names t) na ka nc (Kd.kids t).length kc v mb ab d p _ Y (fun b H=>by have:=L b H;simp;omega) (f.keep I (f.parts.keep N)) aj ak;unfold J1;go_in;go_wp2_with fail;refine W.out.mono ?_;rintro e w1 ⟨rfl,U,y⟩;have z:=I.trans y;have Q:=f.keep z U;have ar:=z.size;have aq:w.heap.size<w1.heap.size:=by have:=y.size;simp at this;omega
 have k0:w1.cell? ⟨w.heap.size,0,Zn⟩=Zo (Zi Zk s):=y.cell (by simp[go_sem]) om;have k1:w1.cell? ⟨w.heap.size,1,Zn⟩=Zo (Zs na (Kd.names t).length nc):=y.cell (by simp[go_sem]) om;have k2:w1.cell? ⟨w.heap.size,2,Zn⟩=Zo (Zs ka (Kd.kids t).length kc):=y.cell (by simp[go_sem]) om;have Z:=h4.keepK (z.same L) (fun _ h=>h);clear W I N Y y h3 h4;generalize m:(decide (p+1<=40) && decide (d<=6) && fX s (Kd.names t) (Kd.kids t).length)=ok;cases ok with
 | false=>
  have X:Hid (kt (n+1) t d p v w (Zr (Zb false)) w1):=by
   refine⟨z,false,rfl,fun h=>(by cases h),fun _=>?_⟩;rintro ⟨V,hc⟩;simp only[fM,Zq,decide_eq_true_eq]at V;have ha:fX s (Kd.names t) (Kd.kids t).length=true:=by rw[<- hs];exact V.1.2
   have:p+1<=40:=by simp only[fR]at hc;omega
   rw[ha,decide_eq_true V.1.1,decide_eq_true this]at m;cases m
  clear m hs;go_wp2;go_ret;exact X.out
 | true=>
  simp only[Zq,decide_eq_true_eq]at m;have af:Hid ((decide (d<=6) && lA (show Kd (K n) from t))=true):=by show (_ && fX (Kd.sort t) _ _)=_;rw[hs,m.2,decide_eq_true m.1.2];rfl
  obtain⟨⟨ai,ap⟩,-⟩:=m;clear hs;go_wp2_with fail;refine (Dm _ _ _ ⟨_,_,_,rfl⟩ _).mono ?_;rintro e w2 ⟨rfl,B⟩;have ad:b8 v w w2:=z.trans (b8.of_below B);have al:lm w2 v (p+1):=U.keep B;have au:=B.size;have h5:=Z.keepK ((b8.of_below (bb:=v) B).same (fun b H=>by have:=L b H;omega)) (fun _ h=>h);clear Z B Q z U k0 k1 k2;obtain⟨_,_,ah,-,g⟩:=h5;cases ah
  go_wp2;go_loopw [18] (fun i wr=>∃ k:Nat,k<=(Kd.kids t).length/\i=Zi Zk k/\b8 v w2 wr/\lm wr v (p+1+(b4 (fun x=>fR n x) ((Kd.kids t).take k):Int)) /\
    p+1+(b4 (fun x=>fR n x) ((Kd.kids t).take k):Int)<=40/\((Kd.kids t).take k).all (fun x=>fM n x (d+1))=true) (fun i _=>(Kd.kids t).length-(intOf i).toNat)
  case atStart=>exact⟨0,ZE _,rfl,b8.refl _ _,by simpa [b4] using al,by simpa [b4] using ai,zS⟩
  case round=>
   obtain⟨k,hk,rfl,l,o,a,M⟩:=hrel;have c:=a7 M;clear M;have av:=l.size;have E:=ad.trans l;have am:=o.lt;by_cases j:k<(Kd.kids t).length
   ·obtain⟨b,off,rfl,ag,D⟩:=g (by intro h;rw[h]at j;simp at j);obtain⟨x0,x1,x2,e0,e1,e2,hr⟩:=D k j;have P:=L b ag;have f0:=l.cell e0 P.2;have f1:=l.cell e1 P.2;have f2:=l.cell e2 P.2;have q:=hr.keep (l.same (fun b H=>by have:=L b H;omega)) (fun _ h=>h);obtain⟨y0,ya,yl,yc,za,zl,zc,rfl,rfl,rfl⟩:=q.shape;clear g D e0 e1 e2 hr;have O:=(Below.refl wr.heap.size wr).alloc (Zl _) (Zc #[Zi Zk y0,Zs ya yl yc,Zs za zl zc] 31);have F:b8 v wr (wr.alloc (Zc #[Zi Zk y0,Zs ya yl yc,Zs za zl zc] 31)):=b8.of_below O;have q5:=q.keep (F.same (fun b H=>by have:=L b H;omega)) (fun _ h=>h);have C:=f.keep (E.trans F) (o.keep O);have W:Hid (Calls prog 190 _ _ _):=hn S (Kd.kids t)[k] _ _ _ (d+1) _ v mb ab _ q5 (fun b H=>by have:=L b H;simp;omega) C om a om om;have A:=@vT n t d p k j;have u:Hid (b4 (fun x=>fR n x) ((Kd.kids t).take (k+1))=b4 (fun x=>fR n x) ((Kd.kids t).take k)+fR n (Kd.kids t)[k]):=fQ _ _ _ j;clear q q5 C O;unfold J1 at W;go_wp2_with fail;refine W.out.mono ?_;rintro e w3 ⟨R,r,rfl,G,T⟩;have J:=l.trans (F.trans R);cases r with
    | false=>have X:Hid (kt (n+1) t d p v w (Zr (Zb false)) w3):=⟨ad.trans J,false,rfl,fun h=>(by cases h),fun _=>A (T rfl)⟩;clear A T G u c R J F E;go_wp2;go_ret;exact X.out
    | true=>
     obtain⟨V,hc,ae⟩:=G rfl;have HR:Hid (b8 v w2 w3/\lm w3 v (p+1+(b4 (fun x=>fR n x) ((Kd.kids t).take (k+1)):Int))/\p+1+(b4 (fun x=>fR n x) ((Kd.kids t).take (k+1)):Int)<=40/\((Kd.kids t).take (k+1)).all (fun x=>fM n x (d+1))=true):=by
      refine⟨J,?_,?_,j9 k j c.out V⟩;·rw[u.out,show p+1+((b4 (fun x=>fR n x) ((Kd.kids t).take k)+fR n (Kd.kids t)[k]:Nat):Int)=p+1+(b4 (fun x=>fR n x) ((Kd.kids t).take k):Int)+(fR n (Kd.kids t)[k]:Int) by omega];exact ae
      ·rw[u.out];omega
     clear A T G u c R J F E V hc ae o a;go_wp2;go_roundw;case rel=>exact⟨k+1,om,by go_num,HR.out.1,HR.out.2.1,HR.out.2.2.1,HR.out.2.2.2⟩
     case measure=>simp[intOf];omega
   ·have aa:k=(Kd.kids t).length:=by omega
    have X:Hid (kt (n+1) t d p v w (Zr (Zb true)) wr):=by
     have h1:=c.out;rw[aa,List.take_length]at h1 o a;have e:p+1+(b4 (fun x=>fR n x) (Kd.kids t):Int)=p+(fR (n+1) t:Int):=by simp only[fR];omega
     rw[e]at o a;exact⟨E,true,rfl,fun _=>⟨by have:=af.out;simp only[fM,this,h1,Bool.and_self],a,o⟩,fun h=>(by cases h)⟩
    clear aa g c E o a;go_wp2;go_ret;exact X.out
theorem Ep:∀n,qz n:=by
 intro n;induction n with
 | zero=>intro S t c0 c1 c2 d p f e c w a;exact a.elim
 | succ n b=>exact BB n b
theorem Dh (n:Nat) (S:ZP) (t:K n) (c0 c1 c2:Zv) (w:Zw) (j:a8 S w n t c0 c1 c2) (l:Bd S w) :
  Calls prog 149 #[Za #[c0,c1,c2],Zi Zk 40,.func (.func 150) #[] #[]] w fun e A=>e=Zr (Zb (gF n t))/\Bw w A:=by
 have z:∀(k:Fn)(first cap:Array Zv)(w:Zw),(Instr.makeFunc k first cap).run prog w=.ok (.func k first cap) w:=fun _ _ _ _=>rfl;obtain⟨o,p,s,q,u,x,v,rfl,rfl,rfl⟩:=j.shape;have c:Bw w ((((w.alloc (Zc #[Zi Zk o,Zs p s q,Zs u x v] 31)).alloc (Zc #[Zi Zk 40] 3)).alloc (Zc #[.func (.func 150) #[] #[]] 71)).alloc (Zc #[Zi Zk 0] 3)):=
  (((gx _ _).alloc zS _).alloc zE _).alloc zE _
 have f:=j.keep (a6 c l) (fun _ h=>h);have g:Hid (Calls prog 190 _ _ _):=Ep n S t _ _ _ 1 0 (w.heap.size+1+1+1) (w.heap.size+1) (w.heap.size+1+1) _ f (fun b c=>by have:=l b c;simp;omega)
  ⟨by rw[show w.heap.size+1+1+1=(((w.alloc (Zc #[Zi Zk o,Zs p s q,Zs u x v] 31)).alloc (Zc #[Zi Zk 40] 3)).alloc (Zc #[.func (.func 150) #[] #[]] 71)).heap.size by simp];exact lm.new _ 0,
   by simp[go_sem],by simp[go_sem],om,om⟩ om om om om
 unfold J1 at g;clear j f;go_in;go_wp2_with fail;refine g.out.mono ?_;rintro e w1 ⟨m,r,rfl,a,d⟩;have i:Bw w w1:=c.trans (m.below om zE);have C:r=gF n t:=by
  cases r with
  | true=>obtain⟨y,B,-⟩:=a rfl;unfold gF;rw[y,decide_eq_true om];rfl
  | false=>symm;rw[Bool.eq_false_iff];intro h;simp only[gF,Zq,decide_eq_true_eq]at h;exact d rfl ⟨h.1,om⟩
 clear a d m c g;go_wp2;go_ret;exact⟨rfl,i⟩
theorem yA (n:Nat) (S:ZP) (t:K n) (c0 c1 c2:Zv) (w:Zw) (g:a8 S w n t c0 c1 c2) (i:Bd S w) :
  Calls prog 113 #[Za #[c0,c1,c2]] w fun e j=>e=Zr (Zb (gF n t))/\Bw w j:=by obtain⟨k,l,o,m,p,r,q,rfl,rfl,rfl⟩:=g.shape;have a:=(Below.refl w.heap.size w).alloc (Zl _) (Zc #[Zi Zk k,Zs l o m,Zs p r q] 31);obtain⟨c,d⟩:=g.step i a;have h:Hid (Calls prog 149 _ _ _):=Dh n S t _ _ _ _ c d;clear g c;go_in;go_wp2_with fail;refine h.out.mono ?_;rintro e w1 ⟨rfl,b⟩;have f:=b5 a zS b;clear a b h;go_wp2;go_ret;exact⟨rfl,f⟩
def mn(v:Zv):Prop:=∃(a:ZO)(n c:Nat),v=Zs a n c/\n<=c
def fT(S:ZP)(w:Zw):(n:Nat)->T n->Zv->Zv->Zv->Zv->Zv->Prop
 | 0,_,_,_,_,_,_=>False
 | n + 1, t, c0, c1, c2, c3, c4 => c0 = Zi Zk (Nd.sort t) /\ c1 = Zi Zk (Nd.num t) /\ c2 = Zt (Nd.text t) /\ (Nd.text t).size <= maxLen /\
   (Lit.int Zk (Nd.sort t)).wf=true/\(Lit.int Zk (Nd.num t)).wf=true/\fL S w (Nd.names t) c3/\ik S w (fT S w n) (Nd.kids t) c4/\mn c3/\mn c4
theorem fT.keep(e:jn S w w')(d:∀b,S b->S' b):∀ {n:Nat} {t:T n} {c0 c1 c2 c3 c4:Zv},fT S w n t c0 c1 c2 c3 c4->fT S' w' n t c0 c1 c2 c3 c4:=by
 intro n;induction n with
 | zero=>intro t c0 c1 c2 c3 c4 h;exact h.elim
 | succ n q=>intro t c0 c1 c2 c3 c4 h;obtain⟨f,g,i,o,a,c,j,k,l,m⟩:=h;exact⟨f,g,i,o,a,c,j.keep e d,k.keep e d fun x _ _ _ _ _ _ p=>q p,l,m⟩
theorem fT.tree:∀ {n:Nat} {t:T n} {c0 c1 c2 c3 c4:Zv},fT S w n t c0 c1 c2 c3 c4->gE S w n t c0 c1 c2 c3 c4:=by
 intro n;induction n with
 | zero=>intro t c0 c1 c2 c3 c4 h;exact h.elim
 | succ n k=>intro t c0 c1 c2 c3 c4 h;obtain⟨c,d,e,i,a,b,f,g,-,-⟩:=h;exact⟨c,d,e,i,a,b,f,g.keep (fun _ _=>rfl) (fun _ h=>h) fun x _ _ _ _ _ _ j=>k j⟩
theorem fT.shape {t:T n} (h:fT S w n t c0 c1 c2 c3 c4) :
  ∃(s m:Int)(x:ZN)(a:ZO)(l c:Nat)(b:ZO)(e d:Nat),c0=Zi Zk s/\c1=Zi Zk m/\c2=Zt x/\c3=Zs a l c/\c4=Zs b e d:=h.tree.shape
theorem ik.keepN{l:List (T n)}(h:ik S w (fT S w n) l v)(c:jn S w w')(a:∀b,S b->S' b):ik S' w' (fT S' w' n) l v:=
 h.keep c a fun _ _ _ _ _ _ _ d=>d.keep c a
theorem fT.step {t:T n} (h:fT S w n t c0 c1 c2 c3 c4) (c:Bd S w) (d:Bw w w') :
  fT S w' n t c0 c1 c2 c3 c4/\Bd S w':=
 ⟨h.keep (a6 d c) (fun _ h=>h),fun b a=>Zd (c b a) d.size⟩
theorem oe{k:K (n+1)}(h:fM (n+1) k d=true)(b:¬Kd.sort k=5):Kd.names k=[]:=by
 simp only[fM,Zq]at h;have a:fX (Kd.sort k) (Kd.names k) (Kd.kids k).length=true:=h.1.2;unfold fX at a;rw[if_neg b]at a;have e:((Kd.names k).length:Int)=0:=by
  split at a;·simp at a;simp[a.1]
  split at a;·simp at a;simp[a.1]
  split at a;·simp at a;simp[a.1]
  split at a;·simp at a;simp[a.1]
  split at a;·simp at a;simp[a.1]
  ·cases a
 exact Zz om
theorem BW{k:K (n+1)}(h:fM (n+1) k d=true)(b:Kd.sort k=5):(Kd.names k).length=(Kd.kids k).length/\gX (Kd.names k)=true:=by simp only[fM,Zq]at h;have a:fX (Kd.sort k) (Kd.names k) (Kd.kids k).length=true:=h.1.2;unfold fX at a;rw[b]at a;simp at a;exact⟨om,a.2⟩
theorem A7(h:gX l=true):∀s,s∈l->s.size<=8:=by intro s b;obtain⟨i,hi,rfl⟩:=List.getElem_of_mem b;unfold gX iP at h;have:=ZC.1 h i (List.mem_range.2 hi);simp only[i8,Zq,gj,decide_eq_true_eq]at this;have a:=this.1.1.1.2;simpa [List.getD,hi] using a
theorem uM(x:Int)(w:Zw):Calls prog 226 #[Zi Zk x] w fun e b=>e=Zr (Zb (decide (-999999999<=x/\x<=999999999)))/\b=w:=by
 by_cases h : -999999999<=x<;>by_cases a:x<=999999999;all_goals
  go_in
  go_wp2
  go_ret
  exact⟨b6 (by simp[h,a];try omega),rfl⟩
theorem tr(s:ZN)(w:Zw)(l:s.size<=maxLen):Calls prog 227 #[Zt s] w fun e m=>e=Zr (Zb (kB s))/\m=w:=by
 unfold maxLen at l;by_cases g:s.size<=60
 ·go_in;go_wp2;go_loop [9] (fun i=>∃k:Nat,k<=s.size/\i=Zi Zk k/\(s.data.toList.take k).all mf=true) (fun i=>s.size-(intOf i).toNat);case atStart=>exact⟨0,ZE _,rfl,zS⟩
  case round=>
   obtain⟨k,p,rfl,a⟩:=hrel;have d:=a7 a;clear a;by_cases b:k<s.size
   ·cases hb:mf s[k] with
    | true=>
     have h:Hid (mf s[k]=true):=hb;unfold mf at hb;rw[decide_eq_true_eq]at hb;obtain⟨n,o,f⟩:=hb;have j:((s[k].toNat:Int)==34)=false:=by simpa using f
     clear f;go_wp2;go_round;case rel=>exact⟨k+1,om,by go_num,kd k b d.out h.out⟩
     case measure=>simp[intOf];omega
    | false=>
     have c:Hid (kB s=false):=by show _=_;rw[kB,lG k b hb];simp
     unfold mf at hb;rw[decide_eq_false_iff_not]at hb;go_wp2;all_goals first
      | (go_ret;exact⟨b6 c.out.symm,rfl⟩)
      | (exfalso;apply hb;simp_all)
   ·have c:Hid (kB s=true):=by show _=_;rw[kB,lH k om d.out];simp[g]
    go_wp2;go_ret;exact⟨b6 c.out.symm,rfl⟩
 ·go_in;go_wp2;go_ret;exact⟨b6 (by simp[kB,g]),rfl⟩
theorem Jc (m:Int) (x:ZN) (l:List ZN) (ka:ZO) (kl kc:Nat) (w:Zw) (na:ZO) (b:Nat) :
  Calls prog 208 #[Za #[Zi Zk 1,Zi Zk m,Zt x,Zs na l.length b,Zs ka kl kc]] w fun e a=>e=Zr (Zb (decide (-999999999<=m/\m<=999999999) && x.toList.isEmpty && ((l.length:Int)==0) && ((kl:Int)==0)))/\Bw w a:=by
 go_in;go_wp2_with (go_at_call 226;refine (uM _ _).mono ?_;rintro e a ⟨rfl,rfl⟩);all_goals
  go_ret
  exact⟨b6 (by simp_all),gx _ _⟩
theorem Je (m:Int) (x:ZN) (l:List ZN) (ka:ZO) (kl kc:Nat) (w:Zw) (na:ZO) (c:Nat) (b:x.size<=maxLen) :
  Calls prog 208 #[Za #[Zi Zk 2,Zi Zk m,Zt x,Zs na l.length c,Zs ka kl kc]] w fun e a=>e=Zr (Zb ((m==0) && kB x && ((l.length:Int)==0) && ((kl:Int)==0)))/\Bw w a:=by
 go_in;go_wp2_with (go_at_call 227;refine (tr _ _ b).mono ?_;rintro e a ⟨rfl,rfl⟩);all_goals
  go_ret
  exact⟨b6 (by simp_all),gx _ _⟩
theorem Jf (m:Int) (x:ZN) (l:List ZN) (ka:ZO) (kl kc:Nat) (w:Zw) (na:ZO) (g:Nat) :
  Calls prog 208 #[Za #[Zi Zk 3,Zi Zk m,Zt x,Zs na l.length g,Zs ka kl kc]] w fun e h=>e=Zr (Zb (decide (0<=m/\m<=1) && x.toList.isEmpty && ((l.length:Int)==0) && ((kl:Int)==0)))/\Bw w h:=by
 by_cases a:m=0
 ·subst a;go_in;go_wp2_with fail;all_goals
   go_ret
   exact⟨b6 (by simp_all),gx _ _⟩
 by_cases b:m=1
 ·subst b;go_in;go_wp2_with fail;all_goals
   go_ret
   exact⟨b6 (by simp_all),gx _ _⟩
 have c:decide (0<=m/\m<=1)=false:=decide_eq_false om;have d:(m==0)=false:=by simpa using a
 have f:(m==1)=false:=by simpa using b
 rw[c];clear c a b;go_in;go_wp2_with fail;all_goals
  go_ret
  exact⟨b6 (by simp_all),gx _ _⟩
theorem Jg (m:Int) (x:ZN) (l:List ZN) (ka:ZO) (kl kc:Nat) (w:Zw) (na:ZO) (a:Nat) :
  Calls prog 208 #[Za #[Zi Zk 4,Zi Zk m,Zt x,Zs na l.length a,Zs ka kl kc]] w fun e b=>e=Zr (Zb ((m==0) && x.toList.isEmpty && ((l.length:Int)==0) && decide ((kl:Int)<=20)))/\Bw w b:=by
 go_in;go_wp2_with fail;all_goals
  go_ret
  exact⟨b6 (by simp_all),gx _ _⟩
theorem Ji (m:Int) (x:ZN) (l:List ZN) (ka:ZO) (kl kc:Nat) (w:Zw) (na:ZO) (a:Nat) :
  Calls prog 208 #[Za #[Zi Zk 6,Zi Zk m,Zt x,Zs na l.length a,Zs ka kl kc]] w fun e b=>e=Zr (Zb ((m==0) && x.toList.isEmpty && ((l.length:Int)==0) && decide ((kl:Int)<=1)))/\Bw w b:=by
 go_in;go_wp2_with fail;all_goals
  go_ret
  exact⟨b6 (by simp_all),gx _ _⟩
theorem Jh (m:Int) (x:ZN) (l:List ZN) (ka:ZO) (kl kc:Nat) (w:Zw) (na:ZO) (i:Nat) (S:ZP) (o:fL S w l (Zs na l.length i)) (n:Bd S w) :
  Calls prog 208 #[Za #[Zi Zk 5,Zi Zk m,Zt x,Zs na l.length i,Zs ka kl kc]] w fun e j=>e=Zr (Zb ((m==0) && x.toList.isEmpty && ((l.length:Int)==(kl:Int)) && gX l))/\Bw w j:=by
 by_cases f:m=0
 ·subst f;cases hx:x.toList.isEmpty with
  | false=>
   go_in;go_wp2_with fail;all_goals
    go_ret
    exact⟨b6 (by simp_all),gx _ _⟩
  | true=>
   by_cases c:l.length=kl
   ·subst c;have a:=(Below.refl w.heap.size w).alloc (Zl _) (Zc #[Zi Zk 5,Zi Zk 0,Zt x,Zs na l.length i,Zs ka l.length kc] 164);have b:=o.keep (a6 a n) (fun _ h=>h);have k:=a7 (mM S l _ _ b);have c:((l.length:Int)==(l.length:Int))=true:=zS;clear o b n;cases h0:((l.length:Int)==0) with
    | true=>go_in;go_wp2_with fail;refine k.out.mono ?_;rintro e j ⟨rfl,rfl⟩;go_wp2;go_ret;exact⟨zS,a⟩
    | false=>go_in;go_wp2_with fail;refine k.out.mono ?_;rintro e j ⟨rfl,rfl⟩;go_wp2;go_ret;exact⟨zS,a⟩
   ·have d:((l.length:Int)==(kl:Int))=false:=by simp;omega
    rw[d];clear c;cases h0:((l.length:Int)==0)<;>cases h1:((kl:Int)==0)
    all_goals
     go_in
     go_wp2
     go_ret
     exact⟨rfl,gx _ _⟩
 ·have g:(m==0)=false:=by simpa using f
  rw[g];clear f;go_in;go_wp2_with fail;all_goals
   go_ret
   exact⟨b6 (by simp_all),gx _ _⟩
theorem AE (s m:Int) (x:ZN) (l:List ZN) (ka:ZO) (kl kc:Nat) (w:Zw) (na:ZO) (a:Nat)
  (c:(s==1)=false) (d:(s==2)=false) (f:(s==3)=false) (g:(s==4)=false) (h:(s==5)=false) (i:(s==6)=false) :
  Calls prog 208 #[Za #[Zi Zk s,Zi Zk m,Zt x,Zs na l.length a,Zs ka kl kc]] w fun e b=>e=Zr (Zb false)/\Bw w b:=by
 go_in;go_wp2_with fail;all_goals
  go_ret
  exact⟨rfl,gx _ _⟩
theorem FX (s m:Int) (x:ZN) (l:List ZN) (ka:ZO) (kl kc:Nat) (w:Zw) (na:ZO) (a:Nat) (k:x.size<=maxLen)
  (S:ZP) (j:fL S w l (Zs na l.length a)) (i:Bd S w) :
  Calls prog 208 #[Za #[Zi Zk s,Zi Zk m,Zt x,Zs na l.length a,Zs ka kl kc]] w fun e n=>e=Zr (Zb (gM s m x l kl))/\Bw w n:=by
 unfold gM;by_cases b:s=1;·subst b;rw[if_pos rfl];exact Jc m x l ka kl kc w na a
 rw[if_neg b];by_cases c:s=2;·subst c;rw[if_pos rfl];exact Je m x l ka kl kc w na a k
 rw[if_neg c];by_cases d:s=3;·subst d;rw[if_pos rfl];exact Jf m x l ka kl kc w na a
 rw[if_neg d];by_cases f:s=4;·subst f;rw[if_pos rfl];exact Jg m x l ka kl kc w na a
 rw[if_neg f];by_cases g:s=5;·subst g;rw[if_pos rfl];exact Jh m x l ka kl kc w na a S j i
 rw[if_neg g];by_cases h:s=6;·subst h;rw[if_pos rfl];exact Ji m x l ka kl kc w na a
 rw[if_neg h];exact AE s m x l ka kl kc w na a (by simp[b]) (by simp[c]) (by simp[d]) (by simp[f]) (by simp[g]) (by simp[h])
theorem E6 (S:ZP) (s m:Int) (x:ZN) (H:x.size<=maxLen) (l:List ZN) (na ka:ZO) (n kl kc a v q:Nat) (d p:Int) (w:Zw) (z:fL S w l (Zs na l.length n)) (r:∀ b,S b->b<w.heap.size/\b≠a)
  (f:GV w a v q p 120 208) (F:0<=p) (G:p<=120) :
  Calls prog 225 #[Za #[Zi Zk s,Zi Zk m,Zt x,Zs na l.length n,Zs ka kl kc],Zi Zk d,Zp (Zo ⟨a,0,Zn⟩),Zp (Zo ⟨v,0,Zn⟩),Zp (Zo ⟨q,0,Zn⟩)] w
   fun e o=>e=Zr (Zb (decide (p+1<=120) && decide (d<=6) && gM s m x l kl))/\lm o a (p+1)/\b8 a w o:=by
 have D:=f.parts.lt;have k:b8 a w (w.setCell ⟨a,0,Zn⟩ (Zi Zk (p+1))):=b8.set a 0 _ (Zi Zk (p+1));have c:=k.trans (b8.alloc a _ (Zc #[Zi Zk s,Zi Zk m,Zt x,Zs na l.length n,Zs ka kl kc] 164));have i:lm ((w.setCell ⟨a,0,Zn⟩ (Zi Zk (p+1))).alloc (Zc #[Zi Zk s,Zi Zk m,Zt x,Zs na l.length n,Zs ka kl kc] 164)) a (p+1):=(f.parts.set (p+1)).keep (gx _ _);have j:=z.keep (c.same r) (fun _ h=>h);have y:Hid (Calls prog 208 _ _ _):=FX s m x l ka kl kc _ na n H S j (fun b C=>by have:=(r b C).1;simp;omega);have c0:=f.parts.cell;have f0:=f.parts.free;have I:=f.max;have a0:=f.acc;have nm:=f.nm;have J:=f.na;have L:v<w.heap.size:=d8 I;have K:q<w.heap.size:=d8 a0;have E:w.heap.size≠a:=om;clear z j f k r;by_cases A:p+1<=120
 ·by_cases B:d<=6;·go_in;go_wp2_with fail;refine y.out.mono ?_;rintro e o ⟨rfl,g⟩;have u:lm o a (p+1):=(g.block a zE).trans i;have t:=c.trans (b8.of_below (bb:=a) g);clear g y;go_wp2;go_ret;exact⟨b6 (by simp[A,B]),u,t⟩
  ·go_in;go_wp2;go_ret;exact⟨b6 (by rw[decide_eq_false (show ¬d<=6 by omega)];simp),i,c⟩
 ·go_in;go_wp2;go_ret;exact⟨b6 (by rw[decide_eq_false (show ¬p+1<=120 by omega)];simp),i,c⟩
theorem uy{p:α->Bool}{l:List α}(k:Nat)(h:k<l.length)(b:(l.take k).all p=true)(a:p l[k]=true):(l.take (k+1)).all p=true:=by rw[ZA h,List.all_append,b];simpa using a
def oI(n:Nat)(t:T n)(d p:Int)(a:Nat)(w:Zw)(e:Ending)(w':Zw):Prop:=
 b8 a w w' /\ ∃r,e=Zr (Zb r)/\(r=true->ie n t d=true/\p+(d9 n t:Int)<=120/\lm w' a (p+d9 n t))/\(r=false->¬(ie n t d=true/\p+(d9 n t:Int)<=120))
def J4(c b a:Nat):Zv:=.func (.func 225) #[] #[Zp (Zo ⟨c,0,Zn⟩),Zp (Zo ⟨b,0,Zn⟩),Zp (Zo ⟨a,0,Zn⟩)]
def qC(n:Nat):Prop:=∀(S:ZP)(t:T n)(c0 c1 c2 c3 c4:Zv)(d p:Int)(a e c:Nat)(w:Zw),gE S w n t c0 c1 c2 c3 c4->(∀b,S b->b<w.heap.size/\b≠a)->GV w a e c p 120 208->0<=p->p<=120->1<=d->d<=7 ->
 Calls prog 224 #[Za #[c0,c1,c2,c3,c4],Zi Zk d,J4 a e c] w (oI n t d p a w)
theorem Dp(a b c d e:Zv)(h:∃x l k,e=Zs x l k)(w:Zw):Calls prog 291 #[Za #[a,b,c,d,e]] w fun g i=>g=Zr e/\Bw w i:=by obtain⟨x,l,k,rfl⟩:=h;have f:=(Below.refl w.heap.size w).alloc (Zl _) (Zc #[a,b,c,d,Zs x l k] 164);go_in;go_wp2;go_ret;exact⟨rfl,f⟩
theorem Ev {n:Nat} {t:T (n+1)} {d p:Int} (k:Nat) (b:k<(Nd.kids t).length)
  (h:¬(ie n (Nd.kids t)[k] (d+1)=true/\p+1+(b4 (fun x=>d9 n x) ((Nd.kids t).take k):Int)+(d9 n (Nd.kids t)[k]:Int)<=120)):¬(ie (n+1) t d=true/\p+(d9 (n+1) t:Int)<=120):=by rintro ⟨a,f⟩;apply h;simp only[ie,Zq,ZC]at a;refine⟨a.2 _ (Zg b),?_⟩;have e:=fQ (fun x=>d9 n x) (Nd.kids t) k b;have c:=iq (fun x=>d9 n x) ((Nd.kids t).take (k+1)) ((Nd.kids t).drop (k+1));rw[List.take_append_drop]at c;simp only[d9]at f;omega
theorem BE(n:Nat)(hn:qC n):qC (n+1):=by
 intro S t c0 c1 c2 c3 c4 d p y mb ab w ht L g aj ak ao ap;obtain⟨rfl,rfl,rfl,am,-,-,h3,h4⟩:=ht;obtain⟨na,nc,rfl,-,-,-⟩:=id h3;obtain⟨ka,kc,rfl,ac,-⟩:=id h4;unfold maxLen at ac;have m:=g.parts.lt;generalize hs:Nd.sort t=s at *;have N:=(Below.refl w.heap.size w).alloc (Zl _) (Zc #[Zi Zk s,Zi Zk (Nd.num t),Zt (Nd.text t),Zs na (Nd.names t).length nc,Zs ka (Nd.kids t).length kc] 164);have J:b8 y w (w.alloc (Zc #[Zi Zk s,Zi Zk (Nd.num t),Zt (Nd.text t),Zs na (Nd.names t).length nc,Zs ka (Nd.kids t).length kc] 164)):=b8.of_below N;have Y:=h3.keep (J.same L) (fun _ h=>h);have W:Hid (Calls prog 225 _ _ _):=E6 S s (Nd.num t) (Nd.text t) am (Nd.names t) na ka nc (Nd.kids t).length kc y mb ab d p _ Y (fun b I=>by have:=L b I;simp;omega) (g.keep J (g.parts.keep N)) aj ak;unfold J4;go_in;go_wp2_with fail;refine W.out.mono ?_;rintro e w1 ⟨rfl,U,j⟩;have z:=J.trans j;have P:=g.keep z U;have au:=z.size;have ar:w.heap.size<w1.heap.size:=by have:=j.size;simp at this;omega
 have k0:w1.cell? ⟨w.heap.size,0,Zn⟩=Zo (Zi Zk s):=j.cell (by simp[go_sem]) om;have k1:w1.cell? ⟨w.heap.size,1,Zn⟩=Zo (Zi Zk (Nd.num t)):=j.cell (by simp[go_sem]) om;have k2:w1.cell? ⟨w.heap.size,2,Zn⟩=Zo (Zt (Nd.text t)):=j.cell (by simp[go_sem]) om;have k3:w1.cell? ⟨w.heap.size,3,Zn⟩=Zo (Zs na (Nd.names t).length nc):=j.cell (by simp[go_sem]) om;have k4:w1.cell? ⟨w.heap.size,4,Zn⟩=Zo (Zs ka (Nd.kids t).length kc):=j.cell (by simp[go_sem]) om;have Z:=h4.keepT (z.same L) (fun _ h=>h);clear W J N Y j h3 h4;generalize o:(decide (p+1<=120) && decide (d<=6) && gM s (Nd.num t) (Nd.text t) (Nd.names t) (Nd.kids t).length)=ok;cases ok with
 | false=>
  have X:Hid (oI (n+1) t d p y w (Zr (Zb false)) w1):=by
   refine⟨z,false,rfl,fun h=>(by cases h),fun _=>?_⟩;rintro ⟨V,hc⟩;simp only[ie,Zq,decide_eq_true_eq]at V;have ha:gM s (Nd.num t) (Nd.text t) (Nd.names t) (Nd.kids t).length=true:=by rw[<- hs];exact V.1.2
   have:p+1<=120:=by simp only[d9]at hc;omega
   rw[ha,decide_eq_true V.1.1,decide_eq_true this]at o;cases o
  clear o hs;go_wp2;go_ret;exact X.out
 | true=>
  simp only[Zq,decide_eq_true_eq]at o;have af:Hid ((decide (d<=6) && Fc (show Nd (T n) from t))=true):=by show (_ && gM (Nd.sort t) _ _ _ _)=_;rw[hs,o.2,decide_eq_true o.1.2];rfl
  obtain⟨⟨ai,aq⟩,-⟩:=o;clear hs;go_wp2_with fail;refine (Dp _ _ _ _ _ ⟨_,_,_,rfl⟩ _).mono ?_;rintro e w2 ⟨rfl,B⟩;have ad:b8 y w w2:=z.trans (b8.of_below B);have al:lm w2 y (p+1):=U.keep B;have av:=B.size;have h5:=Z.keepT ((b8.of_below (bb:=y) B).same (fun b I=>by have:=L b I;omega)) (fun _ h=>h);clear Z B P z U k0 k1 k2 k3 k4;obtain⟨_,_,ah,-,l⟩:=h5;cases ah
  go_wp2;go_loopw [18] (fun i wr=>∃ k:Nat,k<=(Nd.kids t).length/\i=Zi Zk k/\b8 y w2 wr/\lm wr y (p+1+(b4 (fun x=>d9 n x) ((Nd.kids t).take k):Int)) /\
    p+1+(b4 (fun x=>d9 n x) ((Nd.kids t).take k):Int)<=120/\((Nd.kids t).take k).all (fun x=>ie n x (d+1))=true) (fun i _=>(Nd.kids t).length-(intOf i).toNat)
  case atStart=>exact⟨0,ZE _,rfl,b8.refl _ _,by simpa [b4] using al,by simpa [b4] using ai,zS⟩
  case round=>
   obtain⟨k,hk,rfl,c,u,a,M⟩:=hrel;have f:=a7 M;clear M;have aw:=c.size;have F:=ad.trans c;have an:=u.lt;by_cases m:k<(Nd.kids t).length
   ·obtain⟨b,off,rfl,ag,E⟩:=l (by intro h;rw[h]at m;simp at m);obtain⟨x0,x1,x2,x3,x4,e0,e1,e2,e3,e4,hr⟩:=E k m;have C:=L b ag;have f0:=c.cell e0 C.2;have f1:=c.cell e1 C.2;have f2:=c.cell e2 C.2;have f3:=c.cell e3 C.2;have f4:=c.cell e4 C.2;have q:=hr.keep (c.same (fun b I=>by have:=L b I;omega)) (fun _ h=>h);obtain⟨y0,y1,y2,ya,yl,yc,za,zl,zc,rfl,rfl,rfl,rfl,rfl⟩:=q.shape;clear l E e0 e1 e2 e3 e4 hr;have O:=(Below.refl wr.heap.size wr).alloc (Zl _) (Zc #[Zi Zk y0,Zi Zk y1,Zt y2,Zs ya yl yc,Zs za zl zc] 164);have G:b8 y wr (wr.alloc (Zc #[Zi Zk y0,Zi Zk y1,Zt y2,Zs ya yl yc,Zs za zl zc] 164)):=b8.of_below O;have q5:=q.keep (G.same (fun b I=>by have:=L b I;omega)) (fun _ h=>h);have D:=g.keep (F.trans G) (u.keep O);have W:Hid (Calls prog 224 _ _ _):=hn S (Nd.kids t)[k] _ _ _ _ _ (d+1) _ y mb ab _ q5 (fun b I=>by have:=L b I;simp;omega) D om a om om;have A:=@Ev n t d p k m;have v:Hid (b4 (fun x=>d9 n x) ((Nd.kids t).take (k+1))=b4 (fun x=>d9 n x) ((Nd.kids t).take k)+d9 n (Nd.kids t)[k]):=fQ _ _ _ m;clear q q5 D O;unfold J4 at W;go_wp2_with fail;refine W.out.mono ?_;rintro e w3 ⟨Q,r,rfl,H,R⟩;have K:=c.trans (G.trans Q);cases r with
    | false=>have X:Hid (oI (n+1) t d p y w (Zr (Zb false)) w3):=⟨ad.trans K,false,rfl,fun h=>(by cases h),fun _=>A (R rfl)⟩;clear A R H v f Q K G F;go_wp2;go_ret;exact X.out
    | true=>
     obtain⟨V,hc,ae⟩:=H rfl;have HR:Hid (b8 y w2 w3/\lm w3 y (p+1+(b4 (fun x=>d9 n x) ((Nd.kids t).take (k+1)):Int))/\p+1+(b4 (fun x=>d9 n x) ((Nd.kids t).take (k+1)):Int)<=120/\((Nd.kids t).take (k+1)).all (fun x=>ie n x (d+1))=true):=by
      refine⟨K,?_,?_,uy k m f.out V⟩;·rw[v.out,show p+1+((b4 (fun x=>d9 n x) ((Nd.kids t).take k)+d9 n (Nd.kids t)[k]:Nat):Int)=p+1+(b4 (fun x=>d9 n x) ((Nd.kids t).take k):Int)+(d9 n (Nd.kids t)[k]:Int) by omega];exact ae
      ·rw[v.out];omega
     clear A R H v f Q K G F V hc ae u a;go_wp2;go_roundw;case rel=>exact⟨k+1,om,by go_num,HR.out.1,HR.out.2.1,HR.out.2.2.1,HR.out.2.2.2⟩
     case measure=>simp[intOf];omega
   ·have aa:k=(Nd.kids t).length:=by omega
    have X:Hid (oI (n+1) t d p y w (Zr (Zb true)) wr):=by
     have h1:=f.out;rw[aa,List.take_length]at h1 u a;have e:p+1+(b4 (fun x=>d9 n x) (Nd.kids t):Int)=p+(d9 (n+1) t:Int):=by simp only[d9];omega
     rw[e]at u a;exact⟨F,true,rfl,fun _=>⟨by have:=af.out;simp only[ie,this,h1,Bool.and_self],a,u⟩,fun h=>(by cases h)⟩
    clear aa l f F u a;go_wp2;go_ret;exact X.out
theorem Eu:∀n,qC n:=by
 intro n;induction n with
 | zero=>intro S t c0 c1 c2 c3 c4 d p f e c w a;exact a.elim
 | succ n b=>exact BE n b
theorem Dj (n:Nat) (S:ZP) (t:T n) (c0 c1 c2 c3 c4:Zv) (w:Zw) (j:gE S w n t c0 c1 c2 c3 c4) (l:Bd S w) :
  Calls prog 207 #[Za #[c0,c1,c2,c3,c4],Zi Zk 120,.func (.func 208) #[] #[]] w fun e C=>e=Zr (Zb (Cc n t))/\Bw w C:=by
 have B:∀(k:Fn)(first cap:Array Zv)(w:Zw),(Instr.makeFunc k first cap).run prog w=.ok (.func k first cap) w:=fun _ _ _ _=>rfl;obtain⟨o,p,q,s,v,u,x,z,y,rfl,rfl,rfl,rfl,rfl⟩:=j.shape;have c:Bw w ((((w.alloc (Zc #[Zi Zk o,Zi Zk p,Zt q,Zs s v u,Zs x z y] 164)).alloc (Zc #[Zi Zk 120] 3)).alloc (Zc #[.func (.func 208) #[] #[]] 209)).alloc (Zc #[Zi Zk 0] 3)):=
  (((gx _ _).alloc zS _).alloc zE _).alloc zE _
 have f:=j.keep (a6 c l) (fun _ h=>h);have g:Hid (Calls prog 224 _ _ _):=Eu n S t _ _ _ _ _ 1 0 (w.heap.size+1+1+1) (w.heap.size+1) (w.heap.size+1+1) _ f (fun b c=>by have:=l b c;simp;omega)
  ⟨by rw[show w.heap.size+1+1+1=(((w.alloc (Zc #[Zi Zk o,Zi Zk p,Zt q,Zs s v u,Zs x z y] 164)).alloc (Zc #[Zi Zk 120] 3)).alloc (Zc #[.func (.func 208) #[] #[]] 209)).heap.size by simp];exact lm.new _ 0,
   by simp[go_sem],by simp[go_sem],om,om⟩ om om om om
 unfold J4 at g;clear j f;go_in;go_wp2_with fail;refine g.out.mono ?_;rintro e w1 ⟨m,r,rfl,a,d⟩;have i:=c.trans (m.below om zE);have E:r=Cc n t:=by
  cases r with
  | true=>obtain⟨A,D,-⟩:=a rfl;unfold Cc;rw[A,decide_eq_true om];rfl
  | false=>symm;rw[Bool.eq_false_iff];intro h;simp only[Cc,Zq,decide_eq_true_eq]at h;exact d rfl ⟨h.1,om⟩
 clear a d m c g;go_wp2;go_ret;exact⟨rfl,i⟩
theorem th (n:Nat) (S:ZP) (t:T n) (c0 c1 c2 c3 c4:Zv) (w:Zw) (g:gE S w n t c0 c1 c2 c3 c4) (i:Bd S w) :
  Calls prog 180 #[Za #[c0,c1,c2,c3,c4]] w fun e j=>e=Zr (Zb (Cc n t))/\Bw w j:=by obtain⟨k,l,m,o,q,p,r,u,s,rfl,rfl,rfl,rfl,rfl⟩:=g.shape;have a:=(Below.refl w.heap.size w).alloc (Zl _) (Zc #[Zi Zk k,Zi Zk l,Zt m,Zs o q p,Zs r u s] 164);obtain⟨c,d⟩:=g.step i a;have h:=a7 (Dj n S t _ _ _ _ _ _ c d);clear g c;go_in;go_wp2_with fail;refine h.out.mono ?_;rintro e w1 ⟨rfl,b⟩;have f:=b5 a zS b;clear a b h;go_wp2;go_ret;exact⟨rfl,f⟩
theorem Tryz.yes_num(x:Zv)(w:Zw):(Instr.typeAssert (.iface 299 x) 278 299 true).run prog w=.ok (Zu #[x,Zb true]) w:=by kernel_rfl
theorem Tryz.no_num_text(x:Zv)(w:Zw):(Instr.typeAssert (.iface 301 x) 278 299 true).run prog w=.ok (Zu #[Zi Zk 0,Zb false]) w:=by kernel_rfl
theorem Tryz.yes_text(x:Zv)(w:Zw):(Instr.typeAssert (.iface 301 x) 278 301 true).run prog w=.ok (Zu #[x,Zb true]) w:=by kernel_rfl
theorem Tryz.no_num_flag(x:Zv)(w:Zw):(Instr.typeAssert (.iface 302 x) 278 299 true).run prog w=.ok (Zu #[Zi Zk 0,Zb false]) w:=by kernel_rfl
theorem Tryz.no_text_flag(x:Zv)(w:Zw):(Instr.typeAssert (.iface 302 x) 278 301 true).run prog w=.ok (Zu #[Zt Ze,Zb false]) w:=by kernel_rfl
theorem Tryz.yes_flag(x:Zv)(w:Zw):(Instr.typeAssert (.iface 302 x) 278 302 true).run prog w=.ok (Zu #[x,Zb true]) w:=by kernel_rfl
theorem Tryz.no_num_list(x:Zv)(w:Zw):(Instr.typeAssert (.iface 305 x) 278 299 true).run prog w=.ok (Zu #[Zi Zk 0,Zb false]) w:=by kernel_rfl
theorem Tryz.no_text_list(x:Zv)(w:Zw):(Instr.typeAssert (.iface 305 x) 278 301 true).run prog w=.ok (Zu #[Zt Ze,Zb false]) w:=by kernel_rfl
theorem Tryz.no_flag_list(x:Zv)(w:Zw):(Instr.typeAssert (.iface 305 x) 278 302 true).run prog w=.ok (Zu #[Zb false,Zb false]) w:=by kernel_rfl
theorem Tryz.yes_list(x:Zv)(w:Zw):(Instr.typeAssert (.iface 305 x) 278 305 true).run prog w=.ok (Zu #[x,Zb true]) w:=by kernel_rfl
theorem Tryz.no_num_form(x:Zv)(w:Zw):(Instr.typeAssert (.iface 308 x) 278 299 true).run prog w=.ok (Zu #[Zi Zk 0,Zb false]) w:=by kernel_rfl
theorem Tryz.no_text_form(x:Zv)(w:Zw):(Instr.typeAssert (.iface 308 x) 278 301 true).run prog w=.ok (Zu #[Zt Ze,Zb false]) w:=by kernel_rfl
theorem Tryz.no_flag_form(x:Zv)(w:Zw):(Instr.typeAssert (.iface 308 x) 278 302 true).run prog w=.ok (Zu #[Zb false,Zb false]) w:=by kernel_rfl
theorem Tryz.no_list_form(x:Zv)(w:Zw):(Instr.typeAssert (.iface 308 x) 278 305 true).run prog w=.ok (Zu #[Zs Zn 0 0,Zb false]) w:=by kernel_rfl
theorem Tryz.yes_form(x:Zv)(w:Zw):(Instr.typeAssert (.iface 308 x) 278 308 true).run prog w=.ok (Zu #[x,Zb true]) w:=by kernel_rfl
theorem Tryz.no_num_maybe(x:Zv)(w:Zw):(Instr.typeAssert (.iface 310 x) 278 299 true).run prog w=.ok (Zu #[Zi Zk 0,Zb false]) w:=by kernel_rfl
theorem Tryz.no_text_maybe(x:Zv)(w:Zw):(Instr.typeAssert (.iface 310 x) 278 301 true).run prog w=.ok (Zu #[Zt Ze,Zb false]) w:=by kernel_rfl
theorem Tryz.no_flag_maybe(x:Zv)(w:Zw):(Instr.typeAssert (.iface 310 x) 278 302 true).run prog w=.ok (Zu #[Zb false,Zb false]) w:=by kernel_rfl
theorem Tryz.no_list_maybe(x:Zv)(w:Zw):(Instr.typeAssert (.iface 310 x) 278 305 true).run prog w=.ok (Zu #[Zs Zn 0 0,Zb false]) w:=by kernel_rfl
theorem Tryz.no_form_maybe(x:Zv)(w:Zw):(Instr.typeAssert (.iface 310 x) 278 308 true).run prog w=.ok (Zu #[Za #[Zs Zn 0 0,Zs Zn 0 0],Zb false]) w:=by kernel_rfl
theorem Tryz.yes_maybe(x:Zv)(w:Zw):(Instr.typeAssert (.iface 310 x) 278 310 true).run prog w=.ok (Zu #[x,Zb true]) w:=by kernel_rfl
def se(n:Nat):Prop:=∀(S:ZP)(t:K n)(c0 c1 c2:Zv)(a:Int)(w:Zw),a8 S w n t c0 c1 c2->(Bd S w) -> -1<=a->a<=1048576 ->
 Calls prog 19 #[Za #[c0,c1,c2],Zi Zk a] w fun e b=>e=Zr (Zi Zk (gi (mm n t) a))/\Bw w b
theorem zz (n:Nat) (V:se n) (S:ZP) (l:List (K n)) (v:Zv) (c:Int) (w:Zw) (T:gO S w (a8 S w n) l v) (r:Bd S w) (Y : -1<=c) (Q:c<=1048576) :
  Calls prog 54 #[v,Zi Zk c] w fun e W=>e=Zr (Zi Zk (gi (b4 (fun k=>mm n k+1) l) c))/\Bw w W:=by
 obtain⟨X,cap,rfl,u,D⟩:=T;unfold maxLen at u;by_cases I:c-l.length<0;·go_in;go_wp2;go_ret;exact⟨fJ (by rw[gi,kM,if_neg om]),Below.refl _ _⟩
 go_in;go_wp2;go_loopw [1,5] (fun a i wr=>∃k:Nat,k<=l.length/\i=Zi Zk k/\a=Zi Zk (hY (mm n) l k c)/\0<=hY (mm n) l k c/\Bw w wr) (fun _ i _=>l.length-(intOf i).toNat);case atStart=>
  have e:hY (mm n) l 0 c=c-l.length:=by simp[hY,gi,b4];omega
  exact⟨0,ZE _,rfl,by rw[e],by rw[e];omega,Below.refl _ _⟩
 case round=>
  obtain⟨k,Z,rfl,rfl,J,d⟩:=hrel;have p:=(jK (l.length+b4 (mm n) (l.take k)) c Q).2;change hY (mm n) l k c<=1048576 at p;by_cases j:k<l.length
  ·obtain⟨b,off,rfl,o,g⟩:=D (by intro h;rw[h]at j;simp at j);obtain⟨N,O,P,F,G,H,L⟩:=g k j;have f0:=kC d F (r b o);have f1:=kC d G (r b o);have f2:=kC d H (r b o);clear D g F G H;have x:=L.keep (a6 d r) (fun _ h=>h);have y:=d.size;have A:Hid (hY (mm n) l (k+1) c=gi (mm n l[k]) (hY (mm n) l k c)):=pB _ _ _ _ j;have E:Hid (hY (mm n) l (k+1) c = -1->gi (b4 (fun k=>mm n k+1) l) c = -1):=by intro q;have:=iq (mm n) (l.take (k+1)) (l.drop (k+1));rw[List.take_append_drop]at this;rw[kM];unfold hY gi at q;unfold gi;rw[if_neg];intro U;rw[if_pos om]at q;omega
   clear L;go_wp2_with fail;refine (V S l[k] N O P _ wr x (fun b R=>Zd (r b R) y) om p).mono ?_;rintro e w1 ⟨rfl,s⟩;rw[<- A.out];have C:=jK (mm n l[k]) (hY (mm n) l k c) p;rw[<- A.out]at C;have f:=d.trans (s.mono y);clear A s f0 f1 f2 x d;generalize q:hY (mm n) l (k+1) c=m at *;have M:=q;have B:=a7 E;have z:=a7 q;clear E q M;go_wp2;·go_ret;refine⟨fJ ?_,f⟩;rw[B.out om]
   ·go_roundw;case rel=>exact⟨k+1,om,by go_num,by rw[z.out],by rw[z.out];omega,f⟩
    case measure=>simp[intOf];omega
  ·have t:k=l.length:=by omega
   have z:Hid (hY (mm n) l k c=gi (b4 (fun k=>mm n k+1) l) c):=by show _=_;unfold hY;rw[kM,t,List.take_length]
   clear t D;go_wp2;go_ret;exact⟨fJ z.out,d⟩
theorem zA(n:Nat)(C:se n):se (n+1):=by
 intro S t c0 c1 c2 a w D r E F;obtain⟨rfl,-,u,v⟩:=D;have p:Hid (mm (n+1) t=jk (Kd.names t)+b4 (fun k=>mm n k+1) (Kd.kids t)):=rfl;have c:Bw w (w.alloc (Zc #[Zi Zk (Kd.sort t),c1,c2] 52)):=gx _ _;have d:=u.keep (a6 c r) (fun _ h=>h);have f:=v.keepK (a6 c r) (fun _ h=>h);have A:=jK (jk (Kd.names t)) a om;clear u v;go_in;go_wp2_with fail;refine (pi S _ _ _ _ d om om).mono ?_;rintro e w1 ⟨rfl,rfl⟩;generalize x:gi (jk (Kd.names t)) a=m at *;have o:Hid (gi (jk (Kd.names t)) a=m):=x;clear x;by_cases B:m<0;·go_wp2;go_ret;refine⟨fJ ?_,c⟩;rw[p.out,<- kW,o.out,gi,if_neg om]
 ·go_wp2_with fail;refine (zz n C S _ _ _ _ f (fun b z=>by have:=r b z;simp;omega) om om).mono ?_;rintro e w1 ⟨rfl,g⟩;have i:=b5 c zS g;have j:=jK (b4 (fun k=>mm n k+1) (Kd.kids t)) m om;have l:Hid (gi (b4 (fun k=>mm n k+1) (Kd.kids t)) m=gi (mm (n+1) t) a):=by show _=_;rw[p.out,<- kW,o.out]
  clear c g d f o p;rw[l.out];rw[l.out]at j;generalize y:gi (mm (n+1) t) a=q at *;have s:Hid (gi (mm (n+1) t) a=q):=y;clear y l;go_wp2;·go_ret;exact⟨fJ (by rw[s.out];omega),i⟩
  ·go_ret;exact⟨fJ s.out.symm,i⟩
theorem t7:∀n,se n:=by
 intro n;induction n with
 | zero=>intro S t c0 c1 c2 a w b;exact b.elim
 | succ n c=>exact zA n c
theorem Tryz.info_str:(prog.info? 9).map (fun i=>(i.zero,i.size,i.bytes))=Zo (Zo (Zt Ze),1,16):=by kernel_rfl
theorem ve (S:ZP) (l:List ZN) (v:Zv) (w:Zw) (B:fL S w l v) (A:Bd S w) (D:jk l<=1048576) :
  Calls prog 35 #[v] w fun e r=>∃u,e=Zr u/\fL (fun b=>w.heap.size<=b/\b<r.heap.size) r l u/\Bw w r:=by
 obtain⟨E,cap,rfl,g,t,p⟩:=B;have C:=ud l;have m:=run_make_row' (P:=prog) 23 9 (Zt Ze) 16 underlying23 Tryz.info_str rfl Zk Zk l.length om om;go_in;go_wp2;go_loopw [4] (fun i wr=>∃k:Nat,k<=l.length/\i=Zi Zk k/\wr.rowIs w.heap.size 9 l.length (fun j=>if j<k then Zt (l.getD j Ze) else Zt Ze)/\Bw w wr)
  (fun i _=>l.length-(intOf i).toNat)
 case atStart=>exact⟨0,ZE _,rfl,(World.rowIs_made _ _ _ _).congr (fun i _=>zS),gx _ _⟩
 case round=>
  obtain⟨k,F,rfl,a,c⟩:=hrel;by_cases f:k<l.length
  ·obtain⟨b,off,rfl,o,d⟩:=p (by intro h;rw[h]at f;simp at f);have f0:=kC c (d k f) (A b o);have f1:=a.cell f;have f2:=a.frozen k;have z:Hid ((wr.setCell ⟨w.heap.size,k,Zn⟩ (Zt l[k])).rowIs w.heap.size 9 l.length (fun j=>if j<k+1 then Zt (l.getD j Ze) else Zt Ze)):=by
    refine (a.set k (Zt l[k])).congr fun i hi=>?_;by_cases n:i=k;·subst n;simp[f]
    ·by_cases s:i<k;·rw[if_neg n,if_pos s,if_pos om]
     ·rw[if_neg n,if_neg s,if_neg om]
   have x:Hid (Bw w (wr.setCell ⟨w.heap.size,k,Zn⟩ (Zt l[k]))):=c.setCell (Zl _) _;clear p d a c m;go_wp2;go_roundw;case rel=>exact⟨k+1,om,by go_num,z.out,x.out⟩
   case measure=>simp[intOf];omega
  ·have q:k=l.length:=by omega
   have y:Hid (fL (fun b=>w.heap.size<=b/\b<wr.heap.size) wr l (Zs (Zo ⟨w.heap.size,0,Zn⟩) l.length l.length)):=by refine⟨_,_,rfl,g,t,fun _=>⟨w.heap.size,0,rfl,⟨Zl _,a.lt⟩,fun i hi=>?_⟩⟩;have:=a.cell hi;rw[if_pos om]at this;simpa [List.getD,hi] using this
   clear q p t a m;go_wp2;go_ret;exact⟨_,rfl,y.out,c⟩
theorem Tryz.info_kind:(prog.info? 31).map (fun i=>(i.zero,i.size,i.bytes))=Zo (Zo (Za #[Zi Zk 0,Zs Zn 0 0,Zs Zn 0 0]),3,56):=by kernel_rfl
theorem AN (n:Nat) (d:n<=1048576) (w:Zw):(Instr.makeSlice 29 (Zi Zk (n:Int)) (Zi Zk (n:Int))).run prog w =
  .ok (Zs (Zo ⟨w.heap.size,0,Zn⟩) n n) (w.alloc (Zc (madeCells #[Zi Zk 0,Zs Zn 0 0,Zs Zn 0 0] (n*3)) 31)):=by obtain⟨i0,hi,a,b,c⟩:=info_parts Tryz.info_kind;have:=run_make (P:=prog) w 29 31 i0 _ underlying29 hi a Zk Zk (n:Int) (n:Int) om om (by rw[c];omega) om;rw[b]at this;simpa [Value.cells] using this
def sg(n:Nat):Prop:=∀(S:ZP)(t:K n)(c0 c1 c2:Zv)(w:Zw),a8 S w n t c0 c1 c2->(Bd S w)->mm n t<=1048576 ->
 Calls prog 22 #[Za #[c0,c1,c2]] w fun e a=>∃c d f,e=Zr (Za #[c,d,f])/\a8 (fun b=>w.heap.size<=b/\b<a.heap.size) a n t c d f/\Bw w a
theorem zI (n:Nat) (X:sg n) (S:ZP) (l:List (K n)) (v:Zv) (w:Zw) (hl:gO S w (a8 S w n) l v) (D:Bd S w) (ac:b4 (fun k=>mm n k+1) l<=1048576) :
  Calls prog 62 #[v] w fun e M=>∃Z,e=Zr Z/\gO (fun b=>w.heap.size<=b/\b<M.heap.size) M (a8 (fun b=>w.heap.size<=b/\b<M.heap.size) M n) l Z/\Bw w M:=by
 obtain⟨ao,cap,rfl,G,O⟩:=hl;have ab:=mx (mm n) l;have I:=AN l.length om;go_in;go_wp2;go_loopw [4] (fun i wr=>∃ (k:Nat) (F:Nat->Zv),k<=l.length/\i=Zi Zk k/\wr.rowIs w.heap.size 31 (l.length*3) F/\Bw w wr /\
   ∀j (h:j<l.length),j<k->a8 (fun b=>w.heap.size<b/\b<wr.heap.size) wr n l[j] (F (j*3)) (F (j*3+1)) (F (j*3+2)))
  (fun i _=>l.length-(intOf i).toNat)
 case atStart=>obtain⟨F,hF⟩:=mg w #[Zi Zk 0,Zs Zn 0 0,Zs Zn 0 0] (l.length*3) 31;exact⟨0,F,ZE _,rfl,hF,gx _ _,fun j _ h=>absurd h (Nat.not_lt_zero _)⟩
 case round=>
  obtain⟨k,F,hk,rfl,d,c,f⟩:=hrel;by_cases p:k<l.length
  ·obtain⟨b,off,rfl,s,m⟩:=O (by intro h;rw[h]at p;simp at p);obtain⟨d0,d1,d2,U,V,W,Y⟩:=m k p;have f0:=kC c U (D b s);have f1:=kC c V (D b s);have f2:=kC c W (D b s);clear O m U V W;have L:=Y.keep (a6 c D) (fun _ h=>h);have r:=c.size;have J:=gK (fun k=>mm n k+1) l l[k] (Zg p);clear Y I;go_wp2_with fail;refine (X S l[k] d0 d1 d2 wr L (fun b q=>Zd (D b q) r) om).mono ?_;rintro e w1 ⟨g0,g1,g2,rfl,t,g⟩;have ad:=g.size;have H:=d.lt;have a:=d.of_block (g.block _ H);have q0:=a.cell (i:=k*3) om;have q1:=a.cell (i:=k*3+1) om;have q2:=a.cell (i:=k*3+2) om;have r0:=a.frozen (k*3);have r1:=a.frozen (k*3+1);have r2:=a.frozen (k*3+2);obtain⟨u,x,z,y,A,C,B,rfl,rfl,rfl⟩:=t.shape;have R:Hid (∀ j (h:j<l.length),j<k+1->a8 (fun b=>w.heap.size<b/\b<(iD w1 w.heap.size (k*3) (Zi Zk u) (Zs x z y) (Zs A C B)).heap.size)
     (iD w1 w.heap.size (k*3) (Zi Zk u) (Zs x z y) (Zs A C B)) n l[j]
     (nG (k*3) F (Zi Zk u) (Zs x z y) (Zs A C B) (j*3)) (nG (k*3) F (Zi Zk u) (Zs x z y) (Zs A C B) (j*3+1))
     (nG (k*3) F (Zi Zk u) (Zs x z y) (Zs A C B) (j*3+2))):=by
    intro j hj aa
    by_cases E:j<k
    ·rw[ou _ _ _ _ _ (j*3) om,ou _ _ _ _ _ (j*3+1) om,ou _ _ _ _ _ (j*3+2) om]
     refine (f j hj E).keep (fun b q=>?_) (fun b q=>?_)
     ·rw[ia om];exact g.block b q.2
     ·rw[iU];omega
    ·have:j=k:=by omega
     subst this
     rw[Ij,Ik,Il]
     refine t.keep (fun b q=>?_) (fun b q=>?_)
     ·rw[ia om]
     ·rw[iU];omega
   have T:=Gv a (k*3) (Zi Zk u) (Zs x z y) (Zs A C B);have Q:=js (o:=k*3) (g0:=Zi Zk u) (g1:=Zs x z y) (g2:=Zs A C B) (b5 c r g) (Zl _);have N:Hid (_/\_/\_):=⟨T,Q,R.out⟩;clear T Q R f d c g t X a f0 f1 f2 L J;go_wp2;go_roundw;case rel=>exact⟨k+1,_,om,by go_num,N.out.1,N.out.2.1,N.out.2.2⟩
   case measure=>simp[intOf];omega
  ·have P:k=l.length:=by omega
   have HF:Hid (gO (fun b=>w.heap.size<=b/\b<wr.heap.size) wr (a8 (fun b=>w.heap.size<=b/\b<wr.heap.size) wr n) l (Zs (Zo ⟨w.heap.size,0,Zn⟩) l.length l.length)):=by
    refine⟨_,_,rfl,G,fun _=>⟨w.heap.size,0,rfl,⟨Zl _,d.lt⟩,fun i hi=>?_⟩⟩;refine⟨_,_,_,?_,?_,?_,(f i hi om).keep (fun _ _=>rfl) (fun b q=>⟨om,q.2⟩)⟩;·simpa using d.cell (i:=i*3) om
    ·simpa using d.cell (i:=i*3+1) om
    ·simpa using d.cell (i:=i*3+2) om
   clear P O d I f;go_wp2;go_ret;exact⟨_,rfl,HF.out,c⟩
theorem zJ(n:Nat)(U:sg n):sg (n+1):=by
 intro S t c0 c1 c2 w V A J;obtain⟨rfl,H,N,O⟩:=V;have P:mm (n+1) t=jk (Kd.names t)+b4 (fun k=>mm n k+1) (Kd.kids t):=rfl;rw[P]at J;clear P;have l:Bw w (((w.alloc (Zc #[Zi Zk (Kd.sort t),c1,c2] 52)).alloc
   (Zc #[Zi Zk 0,Zs Zn 0 0,Zs Zn 0 0] 31)).alloc (Zc #[Zi Zk (Kd.sort t),Zs Zn 0 0,Zs Zn 0 0] 31)):=
  ((gx _ _).alloc zS _).alloc zE _
 have G:=N.keep (a6 l A) (fun _ h=>h);have M:=a7 (O.keepK (a6 l A) (fun _ h=>h));obtain⟨ka,kc,I,-⟩:=O;subst I;clear N;go_in;go_wp2_with fail;refine (ve S _ _ _ G (fun b c=>by have:=A b c;simp;omega) om).mono ?_;rintro e w1 ⟨v3,rfl,y,i⟩;have K:=i.size;simp at K;obtain⟨x,s⟩:=rh i;obtain⟨na,u,rfl,-⟩:=id y;have E:=a7 y;have p:=b5 l zE i;have C:=a7 (M.out.keepK (a6 i (fun b c=>by have:=A b c;simp;omega)) (fun _ h=>h));clear y M G l;have T:w1.frozen? ⟨w.heap.size+1+1,1,Zn⟩=false:=by rw[s _ _ zS];simp[go_sem]
 have g:jn S w1 (w1.setCell ⟨w.heap.size+1+1,1,Zn⟩ (Zs na (Kd.names t).length u)):=fun b c=>ZD _ _ _ _ (by have:=A b c;show b≠w.heap.size+1+1;omega);have D:Hid (gO S _ (a8 S _ n) (Kd.kids t) _):=C.out.keepK g (fun _ h=>h);have q:Bw w (w1.setCell ⟨w.heap.size+1+1,1,Zn⟩ (Zs na (Kd.names t).length u)):=p.setCell (by show w.heap.size<=w.heap.size+1+1;omega) _;clear C g p;go_wp2_with fail;refine (zI n U S _ _ _ D.out (fun b c=>by have:=A b c;simp;omega) om).mono ?_;rintro e a ⟨v4,rfl,z,j⟩;have L:=j.size;simp at L;obtain⟨d,f⟩:=rh j;obtain⟨m,o,rfl,-⟩:=id z;have F:Hid (gO _ a (a8 _ a n) (Kd.kids t) (Zs m (Kd.kids t).length o)):=z;have r:=b5 q zE j;have B:Hid (Below _ _ a):=j;have m0:a.cell? ⟨w.heap.size+1+1,0,Zn⟩=Zo (Zi Zk (Kd.sort t)):=by rw[d _ _ zE];simp[go_sem,x]
 have W:a.frozen? ⟨w.heap.size+1+1,0,Zn⟩=false:=by rw[f _ _ zE];simp[go_sem,s]
 have m1:a.cell? ⟨w.heap.size+1+1,1,Zn⟩=Zo (Zs na (Kd.names t).length u):=by rw[d _ _ zE];simp[go_sem,x]
 have X:a.frozen? ⟨w.heap.size+1+1,1,Zn⟩=false:=by rw[f _ _ zE];simp[go_sem,s]
 have m2:a.cell? ⟨w.heap.size+1+1,2,Zn⟩=Zo (Zs Zn 0 0):=by rw[d _ _ zE];simp[go_sem,x]
 have Y:a.frozen? ⟨w.heap.size+1+1,2,Zn⟩=false:=by rw[f _ _ zE];simp[go_sem,s]
 have Z:a.cell? ⟨w.heap.size+1,0,Zn⟩=Zo (Zi Zk 0):=by rw[d _ _ zE];simp[go_sem,x]
 have aa:a.frozen? ⟨w.heap.size+1,0,Zn⟩=false:=by rw[f _ _ zE];simp[go_sem,s]
 have r1:a.cell? ⟨w.heap.size+1,1,Zn⟩=Zo (Zs Zn 0 0):=by rw[d _ _ zE];simp[go_sem,x]
 have ab:a.frozen? ⟨w.heap.size+1,1,Zn⟩=false:=by rw[f _ _ zE];simp[go_sem,s]
 have r2:a.cell? ⟨w.heap.size+1,2,Zn⟩=Zo (Zs Zn 0 0):=by rw[d _ _ zE];simp[go_sem,x]
 have ac:a.frozen? ⟨w.heap.size+1,2,Zn⟩=false:=by rw[f _ _ zE];simp[go_sem,s]
 clear z D q i j x s d f;have R:Hid (a8 (fun b=>w.heap.size<=b/\b<(iD (a.setCell ⟨w.heap.size+1+1,2,Zn⟩ (Zs m (Kd.kids t).length o)) (w.heap.size+1) 0 (Zi Zk (Kd.sort t)) (Zs na (Kd.names t).length u) (Zs m (Kd.kids t).length o)).heap.size)
   (iD (a.setCell ⟨w.heap.size+1+1,2,Zn⟩ (Zs m (Kd.kids t).length o)) (w.heap.size+1) 0 (Zi Zk (Kd.sort t)) (Zs na (Kd.names t).length u) (Zs m (Kd.kids t).length o))
   (n+1) t (Zi Zk (Kd.sort t)) (Zs na (Kd.names t).length u) (Zs m (Kd.kids t).length o)):=by
  refine⟨rfl,H,E.out.keep (fun b c=>?_) (fun b c=>?_),F.out.keepK (fun b c=>?_) (fun b c=>?_)⟩
  ·simp at c
   rw[ia om,ZD _ _ _ _ (by show b≠w.heap.size+1+1;omega),B.out.block b zE,ZD _ _ _ _ (by show b≠w.heap.size+1+1;omega)]
  ·simp at c;rw[iU];simp;omega
  ·simp at c
   rw[ia om,ZD _ _ _ _ (by show b≠w.heap.size+1+1;omega)]
  ·simp at c;rw[iU];simp;omega
 have Q:Hid (Bw w (iD (a.setCell ⟨w.heap.size+1+1,2,Zn⟩ (Zs m (Kd.kids t).length o)) (w.heap.size+1) 0 (Zi Zk (Kd.sort t)) (Zs na (Kd.names t).length u) (Zs m (Kd.kids t).length o))):=
  js (r.setCell (by show w.heap.size<=w.heap.size+1+1;omega) _) om
 clear E F B r H;go_wp2_with fail;refine bodyPost_ret (v:=Za #[Zi Zk (Kd.sort t),Zs na (Kd.names t).length u,Zs m (Kd.kids t).length o]) (by simp[results,results22,go_sem,Z,r1,r2]) rfl ?_;exact⟨_,_,_,rfl,R.out,Q.out⟩
theorem ui:∀n,sg n:=by
 intro n;induction n with
 | zero=>intro S t c0 c1 c2 w a;exact a.elim
 | succ n b=>exact zJ n b
def sf(n:Nat):Prop:=∀(S:ZP)(t:T n)(c0 c1 c2 c3 c4:Zv)(a:Int)(w:Zw),gE S w n t c0 c1 c2 c3 c4->(Bd S w) -> -1<=a->a<=1048576 ->
 Calls prog 6 #[Za #[c0,c1,c2,c3,c4],Zi Zk a] w fun e b=>e=Zr (Zi Zk (gi (jR n t) a))/\Bw w b
theorem zB (n:Nat) (Z:sf n) (S:ZP) (l:List (T n)) (v:Zv) (c:Int) (w:Zw) (X:ik S w (gE S w n) l v) (p:Bd S w) (h0 : -1<=c) (V:c<=1048576) :
  Calls prog 28 #[v,Zi Zk c] w fun e w'=>e=Zr (Zi Zk (gi (b4 (fun k=>jR n k+1) l) c))/\Bw w w':=by
 obtain⟨ao,cap,rfl,u,D⟩:=X;unfold maxLen at u;by_cases K:c-l.length<0;·go_in;go_wp2;go_ret;exact⟨fJ (by rw[gi,kM,if_neg om]),Below.refl _ _⟩
 go_in;go_wp2;go_loopw [1,5] (fun a i wr=>∃k:Nat,k<=l.length/\i=Zi Zk k/\a=Zi Zk (hY (jR n) l k c)/\0<=hY (jR n) l k c/\Bw w wr) (fun _ i _=>l.length-(intOf i).toNat);case atStart=>
  have e:hY (jR n) l 0 c=c-l.length:=by simp[hY,gi,b4];omega
  exact⟨0,ZE _,rfl,by rw[e],by rw[e];omega,Below.refl _ _⟩
 case round=>
  obtain⟨k,hk,rfl,rfl,L,d⟩:=hrel;have q:=(jK (l.length+b4 (jR n) (l.take k)) c V).2;change hY (jR n) l k c<=1048576 at q;by_cases o:k<l.length
  ·obtain⟨b,off,rfl,f,j⟩:=D (by intro h;rw[h]at o;simp at o);obtain⟨O,P,Q,R,U,F,G,H,I,J,M⟩:=j k o;have f0:=kC d F (p b f);have f1:=kC d G (p b f);have f2:=kC d H (p b f);have f3:=kC d I (p b f);have f4:=kC d J (p b f);clear D j F G H I J;have x:=M.keep (a6 d p) (fun _ h=>h);have y:=d.size;have A:Hid (hY (jR n) l (k+1) c=gi (jR n l[k]) (hY (jR n) l k c)):=pB _ _ _ _ o;have E:Hid (hY (jR n) l (k+1) c = -1->gi (b4 (fun k=>jR n k+1) l) c = -1):=by intro r;have:=iq (jR n) (l.take (k+1)) (l.drop (k+1));rw[List.take_append_drop]at this;rw[kM];unfold hY gi at r;unfold gi;rw[if_neg];intro Y;rw[if_pos om]at r;omega
   clear M;go_wp2_with fail;refine (Z S l[k] O P Q R U _ wr x (fun b W=>Zd (p b W) y) om q).mono ?_;rintro e w1 ⟨rfl,s⟩;rw[<- A.out];have C:=jK (jR n l[k]) (hY (jR n) l k c) q;rw[<- A.out]at C;have g:=d.trans (s.mono y);clear A s f0 f1 f2 f3 f4 x d;generalize r:hY (jR n) l (k+1) c=m at *;have N:=r;have B:=a7 E;have z:=a7 r;clear E r N;go_wp2;·go_ret;refine⟨fJ ?_,g⟩;rw[B.out om]
   ·go_roundw;case rel=>exact⟨k+1,om,by go_num,by rw[z.out],by rw[z.out];omega,g⟩
    case measure=>simp[intOf];omega
  ·have t:k=l.length:=by omega
   have z:Hid (hY (jR n) l k c=gi (b4 (fun k=>jR n k+1) l) c):=by show _=_;unfold hY;rw[kM,t,List.take_length]
   clear t D;go_wp2;go_ret;exact⟨fJ z.out,d⟩
theorem zD(n:Nat)(F:sf n):sf (n+1):=by
 intro S t c0 c1 c2 c3 c4 a w H s I J;obtain⟨rfl,rfl,rfl,G,-,-,x,y⟩:=H;have z:jR (n+1) t=(Nd.text t).size+jk (Nd.names t)+b4 (fun k=>jR n k+1) (Nd.kids t):=rfl;have l:=a7 z;clear z;unfold maxLen at G;by_cases B:a-(Nd.text t).size<0;·go_in;go_wp2;go_ret;exact⟨fJ (by rw[gi,l.out,if_neg om]),gx _ _⟩
 have c:Bw w (w.alloc (Zc #[Zi Zk (Nd.sort t),Zi Zk (Nd.num t),Zt (Nd.text t),c3,c4] 26)):=gx _ _;have d:=x.keep (a6 c s) (fun _ h=>h);have f:=y.keepT (a6 c s) (fun _ h=>h);have u:=jK (jk (Nd.names t)) (a-(Nd.text t).size) om;have o:Hid (gi (jk (Nd.names t)) (a-(Nd.text t).size)=gi ((Nd.text t).size+jk (Nd.names t)) a):=by show _=_;rw[<- kW];congr 1;rw[gi,if_pos om]
 clear x y;go_in;go_wp2_with fail;refine (pi S _ _ _ _ d om om).mono ?_;rintro e w1 ⟨rfl,rfl⟩;rw[o.out];rw[o.out]at u;generalize A:gi ((Nd.text t).size+jk (Nd.names t)) a=m at *;have r:=a7 A;clear A o;by_cases E:m<0;·go_wp2;go_ret;refine⟨fJ ?_,c⟩;rw[l.out,<- kW,r.out,gi,if_neg om]
 ·go_wp2_with fail;refine (zB n F S _ _ _ _ f (fun b D=>by have:=s b D;simp;omega) om om).mono ?_;rintro e w1 ⟨rfl,g⟩;have i:=b5 c zS g;have j:=jK (b4 (fun k=>jR n k+1) (Nd.kids t)) m om;have p:Hid (gi (b4 (fun k=>jR n k+1) (Nd.kids t)) m=gi (jR (n+1) t) a):=by show _=_;rw[l.out,<- kW,r.out]
  clear c g d f r l;rw[p.out];rw[p.out]at j;generalize C:gi (jR (n+1) t) a=q at *;have v:=a7 C;clear C p;go_wp2;·go_ret;exact⟨fJ (by rw[v.out];omega),i⟩
  ·go_ret;exact⟨fJ v.out.symm,i⟩
theorem Bh:∀n,sf n:=by
 intro n;induction n with
 | zero=>intro S t c0 c1 c2 c3 c4 a w b;exact b.elim
 | succ n c=>exact zD n c
theorem Tryz.info_node:(prog.info? 40).map (fun i=>(i.zero,i.size,i.bytes))=Zo (Zo (Za #[Zi Zk 0,Zi Zk 0,Zt Ze,Zs Zn 0 0,Zs Zn 0 0]),5,80):=by kernel_rfl
theorem AP (n:Nat) (d:n<=1048576) (w:Zw):(Instr.makeSlice 38 (Zi Zk (n:Int)) (Zi Zk (n:Int))).run prog w =
  .ok (Zs (Zo ⟨w.heap.size,0,Zn⟩) n n) (w.alloc (Zc (madeCells #[Zi Zk 0,Zi Zk 0,Zt Ze,Zs Zn 0 0,Zs Zn 0 0] (n*5)) 40)):=by obtain⟨i0,hi,a,b,c⟩:=info_parts Tryz.info_node;have:=run_make (P:=prog) w 38 40 i0 _ underlying38 hi a Zk Zk (n:Int) (n:Int) (by omega) (by omega) (by rw[c];omega) (by omega);rw[b]at this;simpa [Value.cells] using this
theorem vf (S:ZP) (l:List ZN) (v:Zv) (w:Zw) (C:fL S w l v) (B:∀ b,S b->b<w.heap.size) (E:jk l<=1048576) :
  Calls prog 35 #[v] w fun e t=>∃s,e=Zr s/\fL (fun b=>w.heap.size<=b/\b<t.heap.size) t l s/\mn s/\Below w.heap.size w t:=by
 obtain⟨F,cap,rfl,g,x,q⟩:=C;have D:=ud l;have m:=run_make_row' (P:=prog) 23 9 (Zt Ze) 16 underlying23 Tryz.info_str rfl Zk Zk l.length (by omega) (by omega);go_enter func35,ntmps35;go_wp2;go_loopw [4] (fun i wr=>∃k:Nat,k<=l.length/\i=Zi Zk k/\wr.rowIs w.heap.size 9 l.length (fun j=>if j<k then Zt (l.getD j Ze) else Zt Ze)/\Below w.heap.size w wr)
  (fun i _=>l.length-(intOf i).toNat)
 case atStart=>exact⟨0,ZE _,rfl,(World.rowIs_made _ _ _ _).congr (fun i _=>by simp),(Below.refl _ _).alloc (Zl _) _⟩
 case round=>
  obtain⟨k,G,rfl,a,c⟩:=hrel;by_cases f:k<l.length
  ·obtain⟨b,off,rfl,o,d⟩:=q (by intro h;rw[h]at f;simp at f);have f0:=(c.cell (p:=⟨b,off+k,Zn⟩) (B b o)).trans (d k f);have f1:=a.cell f;have f2:=a.frozen k;have A:Hid ((wr.setCell ⟨w.heap.size,k,Zn⟩ (Zt l[k])).rowIs w.heap.size 9 l.length (fun j=>if j<k+1 then Zt (l.getD j Ze) else Zt Ze)):=by
    refine (a.set k (Zt l[k])).congr fun i hi=>?_;by_cases n:i=k;·subst n;simp[f]
    ·by_cases u:i<k;·rw[if_neg n,if_pos u,if_pos (by omega)]
     ·rw[if_neg n,if_neg u,if_neg (by omega)]
   have y:Hid (Below w.heap.size w (wr.setCell ⟨w.heap.size,k,Zn⟩ (Zt l[k]))):=c.setCell (Zl _) _;clear q d a c m;go_wp2;go_roundw;case rel=>exact⟨k+1,by omega,by go_num,A.out,y.out⟩
   case measure=>simp[intOf];omega
  ·have r:k=l.length:=by omega
   have z:Hid (fL (fun b=>w.heap.size<=b/\b<wr.heap.size) wr l (Zs (Zo ⟨w.heap.size,0,Zn⟩) l.length l.length)):=by refine⟨_,_,rfl,g,x,fun _=>⟨w.heap.size,0,rfl,⟨Zl _,a.lt⟩,fun i hi=>?_⟩⟩;have:=a.cell hi;rw[if_pos (by omega)]at this;simpa [List.getD,hi] using this
   clear r q x a m;go_wp2;go_ret;exact⟨_,rfl,z.out,⟨_,_,_,rfl,Zl _⟩,c⟩
def si(n:Nat):Prop:=∀(S:ZP)(t:T n)(c0 c1 c2 c3 c4:Zv)(w:Zw),gE S w n t c0 c1 c2 c3 c4->(∀b,S b->b<w.heap.size)->jR n t<=1048576 ->
 Calls prog 9 #[Za #[c0,c1,c2,c3,c4]] w fun e a=>∃c d f g h,e=Zr (Za #[c,d,f,g,h])/\fT (fun b=>w.heap.size<=b/\b<a.heap.size) a n t c d f g h/\Below w.heap.size w a
theorem zL (n:Nat) (hn:si n) (S:ZP) (l:List (T n)) (v:Zv) (w:Zw) (hl:ik S w (gE S w n) l v) (G:∀ b,S b->b<w.heap.size) (ac:b4 (fun k=>jR n k+1) l<=1048576) :
  Calls prog 36 #[v] w fun e O=>∃U,e=Zr U/\ik (fun b=>w.heap.size<=b/\b<O.heap.size) O (fT (fun b=>w.heap.size<=b/\b<O.heap.size) O n) l U/\mn U/\Below w.heap.size w O:=by
 obtain⟨ao,cap,rfl,J,Q⟩:=hl;have ab:=mx (jR n) l;have L:=AP l.length (by omega);go_enter func36,ntmps36;go_wp2_with fail;go_loopw [4] (fun i wr=>∃ (k:Nat) (F:Nat->Zv),k<=l.length/\i=Zi Zk k/\wr.rowIs w.heap.size 40 (l.length*5) F/\Below w.heap.size w wr /\
   ∀j (h:j<l.length),j<k->fT (fun b=>w.heap.size<b/\b<wr.heap.size) wr n l[j] (F (j*5)) (F (j*5+1)) (F (j*5+2)) (F (j*5+3)) (F (j*5+4)))
  (fun i _=>l.length-(intOf i).toNat)
 case atStart=>obtain⟨F,hF⟩:=mg w #[Zi Zk 0,Zi Zk 0,Zt Ze,Zs Zn 0 0,Zs Zn 0 0] (l.length*5) 40;exact⟨0,F,ZE _,rfl,hF,(Below.refl _ _).alloc (Zl _) _,fun j _ h=>absurd h (Nat.not_lt_zero _)⟩
 case round=>
  obtain⟨k,F,hk,rfl,d,c,f⟩:=hrel;by_cases r:k<l.length
  ·obtain⟨b,off,rfl,m,q⟩:=Q (by intro h;rw[h]at r;simp at r);obtain⟨d0,d1,d2,d3,d4,Y,Z,e2,e3,e4,hr⟩:=q k r;have f0:=(c.cell (p:=⟨b,off+k*5,Zn⟩) (G b m)).trans Y;have f1:=(c.cell (p:=⟨b,off+k*5+1,Zn⟩) (G b m)).trans Z;have f2:=(c.cell (p:=⟨b,off+k*5+2,Zn⟩) (G b m)).trans e2;have f3:=(c.cell (p:=⟨b,off+k*5+3,Zn⟩) (G b m)).trans e3;have f4:=(c.cell (p:=⟨b,off+k*5+4,Zn⟩) (G b m)).trans e4;clear Q q Y Z e2 e3 e4;have N:=hr.keep (a6 c G) (fun _ h=>h);have E:=c.size;have M:=gK (fun k=>jR n k+1) l l[k] (Zg r);clear hr L;go_wp2_with fail;refine (hn S l[k] d0 d1 d2 d3 d4 wr N (fun b D=>Zd (G b D) E) (by omega)).mono ?_;rintro e w1 ⟨g0,g1,g2,g3,g4,rfl,H,g⟩;have ad:=g.size;have K:=d.lt;have a:w1.rowIs w.heap.size 40 (l.length*5) F:=d.of_block (g.block _ K);have q0:=a.cell (i:=k*5) (by omega);have q1:=a.cell (i:=k*5+1) (by omega);have q2:=a.cell (i:=k*5+2) (by omega);have q3:=a.cell (i:=k*5+3) (by omega);have q4:=a.cell (i:=k*5+4) (by omega);have r0:=a.frozen (k*5);have r1:=a.frozen (k*5+1);have r2:=a.frozen (k*5+2);have r3:=a.frozen (k*5+3);have r4:=a.frozen (k*5+4);obtain⟨s,t,u,x,z,y,A,C,B,rfl,rfl,rfl,rfl,rfl⟩:=H.shape;have W:Hid (∀ j (h:j<l.length),j<k+1->fT (fun b=>w.heap.size<b/\b<(pF w1 w.heap.size (k*5) (Zi Zk s) (Zi Zk t) (Zt u) (Zs x z y) (Zs A C B)).heap.size)
     (pF w1 w.heap.size (k*5) (Zi Zk s) (Zi Zk t) (Zt u) (Zs x z y) (Zs A C B)) n l[j]
     (jN (k*5) F (Zi Zk s) (Zi Zk t) (Zt u) (Zs x z y) (Zs A C B) (j*5)) (jN (k*5) F (Zi Zk s) (Zi Zk t) (Zt u) (Zs x z y) (Zs A C B) (j*5+1))
     (jN (k*5) F (Zi Zk s) (Zi Zk t) (Zt u) (Zs x z y) (Zs A C B) (j*5+2)) (jN (k*5) F (Zi Zk s) (Zi Zk t) (Zt u) (Zs x z y) (Zs A C B) (j*5+3))
     (jN (k*5) F (Zi Zk s) (Zi Zk t) (Zt u) (Zs x z y) (Zs A C B) (j*5+4))):=by
    intro j hj aa
    by_cases I:j<k
    ·rw[iI _ _ _ _ _ _ _ (j*5) (by omega),iI _ _ _ _ _ _ _ (j*5+1) (by omega),iI _ _ _ _ _ _ _ (j*5+2) (by omega),iI _ _ _ _ _ _ _ (j*5+3) (by omega),iI _ _ _ _ _ _ _ (j*5+4) (by omega)]
     refine (f j hj I).keep (fun b D=>?_) (fun b D=>?_)
     ·rw[km (by omega)];exact g.block b D.2
     ·rw[kZ];omega
    ·have:j=k:=by omega
     subst this
     rw[Cg,Ch,Ci,Cj,Ck]
     refine H.keep (fun b D=>?_) (fun b D=>?_)
     ·rw[km (by omega)]
     ·rw[kZ];omega
   have X:=zj a (k*5) (Zi Zk s) (Zi Zk t) (Zt u) (Zs x z y) (Zs A C B);have V:=ny (o:=k*5) (g0:=Zi Zk s) (g1:=Zi Zk t) (g2:=Zt u) (g3:=Zs x z y) (g4:=Zs A C B) (b5 c E g) (Zl _);have P:Hid (_/\_/\_):=⟨X,V,W.out⟩;clear X V W f d c g H hn a f0 f1 f2 f3 f4 N M;go_wp2_with fail;go_roundw;case rel=>exact⟨k+1,_,by omega,by go_num,P.out.1,P.out.2.1,P.out.2.2⟩
   case measure=>simp[intOf];omega
  ·have R:k=l.length:=by omega
   have HF:Hid (ik (fun b=>w.heap.size<=b/\b<wr.heap.size) wr (fT (fun b=>w.heap.size<=b/\b<wr.heap.size) wr n) l (Zs (Zo ⟨w.heap.size,0,Zn⟩) l.length l.length)):=by
    refine⟨_,_,rfl,J,fun _=>⟨w.heap.size,0,rfl,⟨Zl _,d.lt⟩,fun i hi=>?_⟩⟩;refine⟨_,_,_,_,_,?_,?_,?_,?_,?_,(f i hi (by omega)).keep (fun _ _=>rfl) (fun b D=>⟨by omega,D.2⟩)⟩;·simpa using d.cell (i:=i*5) (by omega)
    ·simpa using d.cell (i:=i*5+1) (by omega)
    ·simpa using d.cell (i:=i*5+2) (by omega)
    ·simpa using d.cell (i:=i*5+3) (by omega)
    ·simpa using d.cell (i:=i*5+4) (by omega)
   clear R Q d L f;go_wp2_with fail;go_ret;exact⟨_,rfl,HF.out,⟨_,_,_,rfl,Zl _⟩,c⟩
theorem zM(n:Nat)(hn:si n):si (n+1):=by
 intro S t c0 c1 c2 c3 c4 w ht C O;obtain⟨rfl,rfl,rfl,W,J,K,T,U⟩:=ht;have V:jR (n+1) t=(Nd.text t).size+jk (Nd.names t)+b4 (fun k=>jR n k+1) (Nd.kids t):=rfl;rw[V]at O;clear V;have q:Below w.heap.size w (((w.alloc (Zc #[Zi Zk (Nd.sort t),Zi Zk (Nd.num t),Zt (Nd.text t),c3,c4] 26)).alloc
   (Zc #[Zi Zk 0,Zi Zk 0,Zt ⟨#[]⟩,Zs Zn 0 0,Zs Zn 0 0] 40)).alloc (Zc #[Zi Zk (Nd.sort t),Zi Zk (Nd.num t),Zt (Nd.text t),Zs Zn 0 0,Zs Zn 0 0] 40)):=
  (((Below.refl _ _).alloc (Zl _) _).alloc (by simp) _).alloc (by simp;omega) _
 have I:=T.keep (a6 q C) (fun _ h=>h);have R:Hid (ik S _ (gE S _ n) (Nd.kids t) c4):=U.keepT (a6 q C) (fun _ h=>h);obtain⟨ka,kc,N,-⟩:=U;subst N;clear T;go_enter func9,ntmps9;go_wp2_with fail;refine (vf S _ _ _ I (fun b f=>by have:=C b f;simp;omega) (by omega)).mono ?_;rintro e w1 ⟨v3,rfl,A,o,j⟩;have L:=a7 o;clear o;have P:=j.size;simp at P;obtain⟨m,g⟩:=rh j;obtain⟨na,u,rfl,-⟩:=id A;have G:Hid (fL _ w1 (Nd.names t) (Zs na (Nd.names t).length u)):=A;have x:=b5 q (by simp;omega) j;have E:Hid (ik S w1 (gE S w1 n) (Nd.kids t) _):=R.out.keepT (a6 j (fun b f=>by have:=C b f;simp;omega)) (fun _ h=>h);clear A R I q;have Z:w1.frozen? ⟨w.heap.size+1+1,3,Zn⟩=false:=by rw[g _ _ (by simp)];simp[go_sem]
 have i:jn S w1 (w1.setCell ⟨w.heap.size+1+1,3,Zn⟩ (Zs na (Nd.names t).length u)):=fun b f=>ZD _ _ _ _ (by have:=C b f;show b≠w.heap.size+1+1;omega);have F:Hid (ik S _ (gE S _ n) (Nd.kids t) _):=E.out.keepT i (fun _ h=>h);have y:Below w.heap.size w (w1.setCell ⟨w.heap.size+1+1,3,Zn⟩ (Zs na (Nd.names t).length u)):=x.setCell (by show w.heap.size<=w.heap.size+1+1;omega) _;clear E i x;go_wp2_with fail;refine (zL n hn S _ _ _ F.out (fun b f=>by have:=C b f;simp;omega) (by omega)).mono ?_;rintro e a ⟨v4,rfl,B,p,l⟩;have M:=a7 p;clear p;have Q:=l.size;simp at Q;obtain⟨c,d⟩:=rh l;obtain⟨r,s,rfl,-⟩:=id B;have H:Hid (ik _ a (fT _ a n) (Nd.kids t) (Zs r (Nd.kids t).length s)):=B;have z:=b5 y (by simp;omega) l;have D:Hid (Below _ _ a):=l;have m0:a.cell? ⟨w.heap.size+1+1,0,Zn⟩=Zo (Zi Zk (Nd.sort t)):=by rw[c _ _ (by simp;omega)];simp[go_sem,m]
 have aa:a.frozen? ⟨w.heap.size+1+1,0,Zn⟩=false:=by rw[d _ _ (by simp;omega)];simp[go_sem,g]
 have m1:a.cell? ⟨w.heap.size+1+1,1,Zn⟩=Zo (Zi Zk (Nd.num t)):=by rw[c _ _ (by simp;omega)];simp[go_sem,m]
 have ab:a.frozen? ⟨w.heap.size+1+1,1,Zn⟩=false:=by rw[d _ _ (by simp;omega)];simp[go_sem,g]
 have m2:a.cell? ⟨w.heap.size+1+1,2,Zn⟩=Zo (Zt (Nd.text t)):=by rw[c _ _ (by simp;omega)];simp[go_sem,m]
 have ac:a.frozen? ⟨w.heap.size+1+1,2,Zn⟩=false:=by rw[d _ _ (by simp;omega)];simp[go_sem,g]
 have m3:a.cell? ⟨w.heap.size+1+1,3,Zn⟩=Zo (Zs na (Nd.names t).length u):=by rw[c _ _ (by simp;omega)];simp[go_sem,m]
 have ad:a.frozen? ⟨w.heap.size+1+1,3,Zn⟩=false:=by rw[d _ _ (by simp;omega)];simp[go_sem,g]
 have m4:a.cell? ⟨w.heap.size+1+1,4,Zn⟩=Zo (Zs Zn 0 0):=by rw[c _ _ (by simp;omega)];simp[go_sem,m]
 have ae:a.frozen? ⟨w.heap.size+1+1,4,Zn⟩=false:=by rw[d _ _ (by simp;omega)];simp[go_sem,g]
 have r0:a.cell? ⟨w.heap.size+1,0,Zn⟩=Zo (Zi Zk 0):=by rw[c _ _ (by simp;omega)];simp[go_sem,m]
 have af:a.frozen? ⟨w.heap.size+1,0,Zn⟩=false:=by rw[d _ _ (by simp;omega)];simp[go_sem,g]
 have r1:a.cell? ⟨w.heap.size+1,1,Zn⟩=Zo (Zi Zk 0):=by rw[c _ _ (by simp;omega)];simp[go_sem,m]
 have ag:a.frozen? ⟨w.heap.size+1,1,Zn⟩=false:=by rw[d _ _ (by simp;omega)];simp[go_sem,g]
 have r2:a.cell? ⟨w.heap.size+1,2,Zn⟩=Zo (Zt ⟨#[]⟩):=by rw[c _ _ (by simp;omega)];simp[go_sem,m]
 have ah:a.frozen? ⟨w.heap.size+1,2,Zn⟩=false:=by rw[d _ _ (by simp;omega)];simp[go_sem,g]
 have r3:a.cell? ⟨w.heap.size+1,3,Zn⟩=Zo (Zs Zn 0 0):=by rw[c _ _ (by simp;omega)];simp[go_sem,m]
 have ai:a.frozen? ⟨w.heap.size+1,3,Zn⟩=false:=by rw[d _ _ (by simp;omega)];simp[go_sem,g]
 have r4:a.cell? ⟨w.heap.size+1,4,Zn⟩=Zo (Zs Zn 0 0):=by rw[c _ _ (by simp;omega)];simp[go_sem,m]
 have aj:a.frozen? ⟨w.heap.size+1,4,Zn⟩=false:=by rw[d _ _ (by simp;omega)];simp[go_sem,g]
 clear B F y j l m g c d;have Y:Hid (fT (fun b=>w.heap.size<=b/\b<(pF (a.setCell ⟨w.heap.size+1+1,4,Zn⟩ (Zs r (Nd.kids t).length s)) (w.heap.size+1) 0 (Zi Zk (Nd.sort t)) (Zi Zk (Nd.num t)) (Zt (Nd.text t)) (Zs na (Nd.names t).length u) (Zs r (Nd.kids t).length s)).heap.size)
   (pF (a.setCell ⟨w.heap.size+1+1,4,Zn⟩ (Zs r (Nd.kids t).length s)) (w.heap.size+1) 0 (Zi Zk (Nd.sort t)) (Zi Zk (Nd.num t)) (Zt (Nd.text t)) (Zs na (Nd.names t).length u) (Zs r (Nd.kids t).length s))
   (n+1) t (Zi Zk (Nd.sort t)) (Zi Zk (Nd.num t)) (Zt (Nd.text t)) (Zs na (Nd.names t).length u) (Zs r (Nd.kids t).length s)):=by
  refine⟨rfl,rfl,rfl,W,J,K,G.out.keep (fun b f=>?_) (fun b f=>?_),H.out.keepN (fun b f=>?_) (fun b f=>?_),L.out,M.out⟩
  ·simp at f
   rw[km (by omega),ZD _ _ _ _ (by show b≠w.heap.size+1+1;omega),D.out.block b (by simp;omega),ZD _ _ _ _ (by show b≠w.heap.size+1+1;omega)]
  ·simp at f;rw[kZ];simp;omega
  ·simp at f
   rw[km (by omega),ZD _ _ _ _ (by show b≠w.heap.size+1+1;omega)]
  ·simp at f;rw[kZ];simp;omega
 have X:Hid (Below w.heap.size w (pF (a.setCell ⟨w.heap.size+1+1,4,Zn⟩ (Zs r (Nd.kids t).length s)) (w.heap.size+1) 0 (Zi Zk (Nd.sort t)) (Zi Zk (Nd.num t)) (Zt (Nd.text t)) (Zs na (Nd.names t).length u) (Zs r (Nd.kids t).length s))):=
  ny (z.setCell (by show w.heap.size<=w.heap.size+1+1;omega) _) (by omega)
 clear G H D z J K W;go_wp2_with fail;refine bodyPost_ret (v:=Za #[Zi Zk (Nd.sort t),Zi Zk (Nd.num t),Zt (Nd.text t),Zs na (Nd.names t).length u,Zs r (Nd.kids t).length s]) (by simp[results,results9,go_sem,r0,r1,r2,r3,r4]) rfl ?_;exact⟨_,_,_,_,_,rfl,Y.out,X.out⟩
theorem Bv:∀n,si n:=by
 intro n;induction n with
 | zero=>intro S t c0 c1 c2 c3 c4 w a;exact a.elim
 | succ n b=>exact zM n b
end Go.Proofs.YtcfojmaccikgeaaGreatDoor
