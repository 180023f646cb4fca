import Derived.Test.YtcfojmaccikgeaaGreatDoorRows
import Derived.Test.YtcfojmaccikgeaaGreatDoorB1
import Derived.WalkKit
import Derived.WalkSpells
import Derived.WalkLawsBesides
import Derived.Deep.OwnRows
open Go.Value renaming slice→Zs,int→Zi,string→Zt,pointer→Zp,agg→Za,tuple→Zu,bool→Zb
open Go.IntKind renaming i64→Zk
open Go.Ending renaming returned→Zr
open Go.Obj renaming cells→Zc
open Option renaming none→Zn,some→Zo
open Go renaming World→Zw,Value→Zv
open Nat renaming le_refl→Zl,lt_of_lt_of_le→Zd,zero_le→ZE
open Bool renaming and_eq_true→Zq
open List renaming getElem_mem→Zg,length_append→Zx,eq_nil_of_length_eq_zero→Zz,length_cons→Zy,mem_cons_self→Zj,take_succ_eq_append_getElem→ZA,mem_cons_of_mem→ZB,all_eq_true→ZC
open ByteArray renaming empty→Ze
open Go.RowKit.Below renaming heap_setCell→ZD
namespace Go.Proofs.YtcfojmaccikgeaaGreatDoor
open Go.RowKit Go.Proofs.Tryz
variable {p d:Int} {n b o B t N k bb pb M:Nat} {s:ByteArray} {w w' a c:Zw} {S S':Nat->Prop} {l:List ByteArray} {v g0 g1 g2 g3 g4 c0 c1 c2 c3 c4:Zv} {α:Type} {F:Nat->Zv} {r:List UInt8}
theorem a7{p:Prop}(h:p):Hid p:=h
def fL(S:Nat->Prop)(w:Zw)(l:List ByteArray)(v:Zv):Prop:=
 ∃(a:Option Addr)(cap:Nat),v=Zs a l.length cap/\l.length<=maxLen/\(∀s,s∈l->s.size<=maxLen) /\
  (l≠[]->∃b off,a=Zo ⟨b,off,Zn⟩/\S b/\∀i (h:i<l.length),w.cell? ⟨b,off+i,Zn⟩=Zo (Zt l[i]))
def ig{α:Type}(S:Nat->Prop)(w:Zw)(R:α->Zv->Zv->Zv->Zv->Zv->Prop)(l:List α)(v:Zv):Prop:=
 ∃(a:Option Addr)(cap:Nat),v=Zs a l.length cap/\l.length<=maxLen /\
  (l≠[]->∃b off,a=Zo ⟨b,off,Zn⟩/\S b/\∀i (h:i<l.length),∃c0 c1 c2 c3 c4,w.cell? ⟨b,off+i*5,Zn⟩=Zo c0/\w.cell? ⟨b,off+i*5+1,Zn⟩=Zo c1 /\
   w.cell? ⟨b,off+i*5+2,Zn⟩=Zo c2/\w.cell? ⟨b,off+i*5+3,Zn⟩=Zo c3/\w.cell? ⟨b,off+i*5+4,Zn⟩=Zo c4/\R l[i] c0 c1 c2 c3 c4)
def gJ(S:Nat->Prop)(w:Zw):(n:Nat)->T n->Zv->Zv->Zv->Zv->Zv->Prop
 | 0,_,_,_,_,_,_=>False
 | n + 1, t, c0, c1, c2, c3, c4 => c0 = Zi Zk (Nd.sort t) /\ c1 = Zi Zk (Nd.num t) /\ c2 = Zt (Nd.text t) /\ (Nd.text t).size <= maxLen /\
   (Lit.int Zk (Nd.sort t)).wf=true/\(Lit.int Zk (Nd.num t)).wf=true/\fL S w (Nd.names t) c3/\ig S w (gJ S w n) (Nd.kids t) c4
def jy(S:Nat->Prop)(w w':Zw):Prop:=∀b,S b->w'.heap[b]?=w.heap[b]?
theorem gF(w:Zw)(o:Obj):Bw w (w.alloc o):=(Below.refl _ _).alloc (Zl _) o
theorem kC{s:Option Nat}{x:Option Zv}(h:Below n w w')(e:w.cell? ⟨b,o,s⟩=x)(a:b<n):w'.cell? ⟨b,o,s⟩=x:=(h.cell (p:=⟨b,o,s⟩) a).trans e
theorem jy.cell(h:jy S w w'){p:Addr}(a:S p.block):w'.cell? p=w.cell? p:=World.cell?_of_block (w:=w) (h p.block a)
theorem a6(h:Below B w w')(c:∀b,S b->b<B):jy S w w':=fun b a=>h.block b (c b a)
theorem fL.keep(h:fL S w l v)(o:jy S w w')(g:∀b,S b->S' b):fL S' w' l v:=by obtain⟨m,cap,e,k,n,f⟩:=h;refine⟨m,cap,e,k,n,fun c=>?_⟩;obtain⟨b,off,j,d,a⟩:=f c;exact⟨b,off,j,g b d,fun i hi=>(o.cell (p:=⟨b,off+i,Zn⟩) d).trans (a i hi)⟩
theorem ig.keep {R f:α->Zv->Zv->Zv->Zv->Zv->Prop} {l:List α} (h:ig S w R l v) (d:jy S w w') (o:∀ b,S b->S' b)
  (z:∀x c0 c1 c2 c3 c4,x∈l->R x c0 c1 c2 c3 c4->f x c0 c1 c2 c3 c4):ig S' w' f l v:=by
 obtain⟨s,cap,m,r,n⟩:=h;refine⟨s,cap,m,r,fun e=>?_⟩;obtain⟨b,off,q,c,a⟩:=n e;refine⟨b,off,q,o b c,fun i hi=>?_⟩;obtain⟨c0,c1,c2,c3,c4,y,j,g,t,u,k⟩:=a i hi;exact⟨c0,c1,c2,c3,c4,(d.cell (p:=⟨b,off+i*5,Zn⟩) c).trans y,(d.cell (p:=⟨b,off+i*5+1,Zn⟩) c).trans j,(d.cell (p:=⟨b,off+i*5+2,Zn⟩) c).trans g,
  (d.cell (p:=⟨b,off+i*5+3,Zn⟩) c).trans t,(d.cell (p:=⟨b,off+i*5+4,Zn⟩) c).trans u,z _ _ _ _ _ _ (Zg hi) k⟩
theorem gJ.keep(e:jy S w w')(d:∀b,S b->S' b):∀ {n:Nat} {t:T n} {c0 c1 c2 c3 c4:Zv},gJ S w n t c0 c1 c2 c3 c4->gJ S' w' n t c0 c1 c2 c3 c4:=by
 intro n;induction n with
 | zero=>intro t c0 c1 c2 c3 c4 h;exact h.elim
 | succ n o=>intro t c0 c1 c2 c3 c4 h;obtain⟨l,g,f,m,c,a,i,j⟩:=h;exact⟨l,g,f,m,c,a,i.keep e d,j.keep e d fun x _ _ _ _ _ _ k=>o k⟩
theorem ig.keepT{l:List (T n)}(h:ig S w (gJ S w n) l v)(a:jy S w w')(c:∀b,S b->S' b):ig S' w' (gJ S' w' n) l v:=
 h.keep a c fun _ _ _ _ _ _ _ d=>d.keep a c
theorem b4{b:Zw}(h:Below B a b)(d:B<=b.heap.size)(k:Bw b c):Below B a c:=h.trans (k.mono d)
theorem gJ.shape:∀ {n:Nat} {t:T n} {c0 c1 c2 c3 c4:Zv},gJ S w n t c0 c1 c2 c3 c4 ->
  ∃(s m:Int)(x:ByteArray)(a:Option Addr)(l c:Nat)(r:Option Addr)(i f:Nat),c0=Zi Zk s/\c1=Zi Zk m/\c2=Zt x/\c3=Zs a l c/\c4=Zs r i f:=by
 intro n;cases n with
 | zero=>intro t c0 c1 c2 c3 c4 h;exact h.elim
 | succ n=>intro t c0 c1 c2 c3 c4 h;obtain⟨q,e,d,v,p,j,⟨u,cap,k,-⟩,⟨g,b,o,-⟩⟩:=h;exact⟨_,_,_,_,_,_,_,_,_,q,e,d,k,o⟩
def rH(w:Zw)(b o:Nat)(g0 g1 g2 g3 g4:Zv):Zw:=
 ((((w.setCell ⟨b,o,Zn⟩ g0).setCell ⟨b,o+1,Zn⟩ g1).setCell ⟨b,o+2,Zn⟩ g2).setCell ⟨b,o+3,Zn⟩ g3).setCell ⟨b,o+4,Zn⟩ g4
def kL(o:Nat)(F:Nat->Zv)(g0 g1 g2 g3 g4:Zv)(j:Nat):Zv:=
 if j=o+4 then g4 else if j=o+3 then g3 else if j=o+2 then g2 else if j=o+1 then g1 else if j=o then g0 else F j
theorem E4(h:w.rowIs b t N F)(o:Nat)(g0 g1 g2 g3 g4:Zv):(rH w b o g0 g1 g2 g3 g4).rowIs b t N (kL o F g0 g1 g2 g3 g4):=
 ((((h.set o g0).set (o+1) g1).set (o+2) g2).set (o+3) g3).set (o+4) g4
theorem GU(o:Nat)(F:Nat->Zv)(g0 g1 g2 g3 g4:Zv):kL o F g0 g1 g2 g3 g4 o=g0:=by simp[kL]
theorem Hk(o:Nat)(F:Nat->Zv)(g0 g1 g2 g3 g4:Zv):kL o F g0 g1 g2 g3 g4 (o+1)=g1:=by simp[kL]
theorem Ha(o:Nat)(F:Nat->Zv)(g0 g1 g2 g3 g4:Zv):kL o F g0 g1 g2 g3 g4 (o+2)=g2:=by simp[kL]
theorem GW(o:Nat)(F:Nat->Zv)(g0 g1 g2 g3 g4:Zv):kL o F g0 g1 g2 g3 g4 (o+3)=g3:=by simp[kL]
theorem GX(o:Nat)(F:Nat->Zv)(g0 g1 g2 g3 g4:Zv):kL o F g0 g1 g2 g3 g4 (o+4)=g4:=by simp[kL]
theorem lg(o:Nat)(F:Nat->Zv)(g0 g1 g2 g3 g4:Zv)(j:Nat)(a:j<o∨o+5<=j):kL o F g0 g1 g2 g3 g4 j=F j:=by unfold kL;rw[if_neg om,if_neg om,if_neg om,if_neg om,if_neg om]
theorem nx(h:k≠b):(rH w b o g0 g1 g2 g3 g4).heap[k]?=w.heap[k]?:=by unfold rH;rw[ZD _ _ _ _ h,ZD _ _ _ _ h,ZD _ _ _ _ h,ZD _ _ _ _ h,ZD _ _ _ _ h]
theorem ol:(rH w b o g0 g1 g2 g3 g4).heap.size=w.heap.size:=by simp[rH]
theorem tr(h:Below B a w)(c:B<=b):Below B a (rH w b o g0 g1 g2 g3 g4):=
 ((((h.setCell c g0).setCell c g1).setCell c g2).setCell c g3).setCell c g4
theorem lZ(w:Zw)(z:Array Zv)(n:Nat)(t:TypeId):∃F,(w.alloc (Zc (madeCells z n) t)).rowIs w.heap.size t n F:=by have h:=World.rowIs_alloc w (madeCells z n) t (fun i=>(madeCells z n).getD i undef) (fun i hi=>by simp[hi]);rw[size_madeCells]at h;exact⟨_,h⟩
theorem ro{W w1:Zw}(a:Bw W w1):(∀b o,b<W.heap.size->w1.cell? ⟨b,o,Zn⟩=W.cell? ⟨b,o,Zn⟩)/\(∀b o,b<W.heap.size->w1.frozen? ⟨b,o,Zn⟩=W.frozen? ⟨b,o,Zn⟩):=
 ⟨fun b o h=>a.cell (p:=⟨b,o,Zn⟩) h,fun b o h=>a.frozen (p:=⟨b,o,Zn⟩) h⟩
def mz(v:Zv):Prop:=∃(a:Option Addr)(n c:Nat),v=Zs a n c/\n<=c
def fZ(S:Nat->Prop)(w:Zw):(n:Nat)->T n->Zv->Zv->Zv->Zv->Zv->Prop
 | 0,_,_,_,_,_,_=>False
 | n + 1, t, c0, c1, c2, c3, c4 => c0 = Zi Zk (Nd.sort t) /\ c1 = Zi Zk (Nd.num t) /\ c2 = Zt (Nd.text t) /\ (Nd.text t).size <= maxLen /\
   (Lit.int Zk (Nd.sort t)).wf=true/\(Lit.int Zk (Nd.num t)).wf=true/\fL S w (Nd.names t) c3/\ig S w (fZ S w n) (Nd.kids t) c4/\mz c3/\mz c4
theorem fZ.keep(e:jy S w w')(d:∀b,S b->S' b):∀ {n:Nat} {t:T n} {c0 c1 c2 c3 c4:Zv},fZ S w n t c0 c1 c2 c3 c4->fZ S' w' n t c0 c1 c2 c3 c4:=by
 intro n;induction n with
 | zero=>intro t c0 c1 c2 c3 c4 h;exact h.elim
 | succ n q=>intro t c0 c1 c2 c3 c4 h;obtain⟨m,g,f,p,c,a,j,k,i,o⟩:=h;exact⟨m,g,f,p,c,a,j.keep e d,k.keep e d fun x _ _ _ _ _ _ l=>q l,i,o⟩
theorem fZ.tree:∀ {n:Nat} {t:T n} {c0 c1 c2 c3 c4:Zv},fZ S w n t c0 c1 c2 c3 c4->gJ S w n t c0 c1 c2 c3 c4:=by
 intro n;induction n with
 | zero=>intro t c0 c1 c2 c3 c4 h;exact h.elim
 | succ n k=>intro t c0 c1 c2 c3 c4 h;obtain⟨i,d,c,j,b,a,e,f,-,-⟩:=h;exact⟨i,d,c,j,b,a,e,f.keep (fun _ _=>rfl) (fun _ h=>h) fun x _ _ _ _ _ _ g=>k g⟩
theorem fZ.shape {t:T n} (h:fZ S w n t c0 c1 c2 c3 c4) :
  ∃(s m:Int)(x:ByteArray)(a:Option Addr)(l c:Nat)(d:Option Addr)(b e:Nat),c0=Zi Zk s/\c1=Zi Zk m/\c2=Zt x/\c3=Zs a l c/\c4=Zs d b e:=h.tree.shape
theorem ig.keepN{l:List (T n)}(h:ig S w (fZ S w n) l v)(a:jy S w w')(c:∀b,S b->S' b):ig S' w' (fZ S' w' n) l v:=
 h.keep a c fun _ _ _ _ _ _ _ d=>d.keep a c
theorem fZ.step {t:T n} (h:fZ S w n t c0 c1 c2 c3 c4) (c:Bd S w) (d:Bw w w') :
  fZ S w' n t c0 c1 c2 c3 c4/\Bd S w':=
 ⟨h.keep (a6 d c) (fun _ h=>h),fun b a=>Zd (c b a) d.size⟩
def ml(c:UInt8):Bool:=decide (32<=(c.toNat:Int)/\(c.toNat:Int)<=126/\¬(c.toNat:Int)=34)
def kf(s:ByteArray):Bool:=decide (s.size<=60) && s.data.toList.all ml
def gH(c:UInt8):Bool:=decide ((97<=(c.toNat:Int)/\(c.toNat:Int)<=122)∨(48<=(c.toNat:Int)/\(c.toNat:Int)<=57))
def pg(c:UInt8):Bool:=decide (97<=(c.toNat:Int)/\(c.toNat:Int)<=122)
def gh(s:ByteArray):Bool:=decide (1<=s.size/\s.size<=8) && pg (s.data.toList.headD 0) && s.data.toList.all gH
def kJ(a b:ByteArray):Bool:=Op.bytesLess a.toList b.toList
def iU(l:List ByteArray)(i:Nat):Bool:=gh (l.getD i Ze) && (i==0 || kJ (l.getD (i-1) Ze) (l.getD i Ze))
def iQ(l:List ByteArray)(k:Nat):Bool:=(List.range k).all (iU l)
def gW(l:List ByteArray):Bool:=iQ l l.length
theorem mD(l:List ByteArray)(k:Nat):iQ l (k+1)=(iQ l k && iU l k):=by simp[iQ,List.range_succ]
theorem lE(l:List ByteArray)(k:Nat)(h:k<l.length)(a:iU l k=false):gW l=false:=by unfold gW iQ;rw[List.all_eq_false];exact⟨k,List.mem_range.2 h,by simp[a]⟩
theorem lD{p:UInt8->Bool}(k:Nat)(h:k<s.size)(a:p s[k]=false):s.data.toList.all p=false:=by rw[List.all_eq_false];exact⟨s[k],by simp[ByteArray.getElem_eq_getElem_data],by simp[a]⟩
theorem jU{p:UInt8->Bool}(k:Nat)(h:k<s.size)(b:(s.data.toList.take k).all p=true)(a:p s[k]=true):(s.data.toList.take (k+1)).all p=true:=by rw[ZA (by simpa using h)];rw[List.all_append,b];simpa [ByteArray.getElem_eq_getElem_data] using a
theorem lK{p:UInt8->Bool}(k:Nat)(h:s.size<=k)(a:(s.data.toList.take k).all p=true):s.data.toList.all p=true:=by rw[List.take_of_length_le (by simpa using h)]at a;exact a
def gS(s m:Int)(x:ByteArray)(l:List ByteArray)(a:Nat):Bool:=
 if s=1 then decide (-999999999<=m/\m<=999999999) && x.toList.isEmpty && ((l.length:Int)==0) && ((a:Int)==0)
 else if s=2 then (m==0) && kf x && ((l.length:Int)==0) && ((a:Int)==0)
 else if s=3 then decide (0<=m/\m<=1) && x.toList.isEmpty && ((l.length:Int)==0) && ((a:Int)==0)
 else if s=4 then (m==0) && x.toList.isEmpty && ((l.length:Int)==0) && decide ((a:Int)<=20)
 else if s=5 then (m==0) && x.toList.isEmpty && ((l.length:Int)==(a:Int)) && gW l
 else if s=6 then (m==0) && x.toList.isEmpty && ((l.length:Int)==0) && decide ((a:Int)<=1)
 else false
def ED{α:Type}(t:Nd α):Bool:=gS t.sort t.num t.text t.names t.kids.length
def ia:(n:Nat)->T n->Int->Bool
 | 0,_,_=>false
 | n+1,t,d=>decide (d<=6) && ED (show Nd (T n) from t) && (Nd.kids t).all (fun k=>ia n k (d+1))
def Be(n:Nat)(t:T n):Bool:=ia n t 1 && decide (fJ n t<=120)
theorem FK:∀(n:Nat)(t:T n)(d:Int),ia n t d=true->1<=fJ n t:=by
 intro n t d h;cases n with
 | zero=>simp[ia]at h
 | succ n=>simp only[fJ];omega
def bs(l:List UInt8):ByteArray:=⟨l.toArray⟩
theorem gB(a b:List UInt8):bs a++bs b=bs (a++b):=by apply ByteArray.ext;simp[bs]
theorem go(l:List UInt8):(bs l).size=l.length:=by simp[bs,ByteArray.size]
theorem ru(s:ByteArray):bs s.data.toList=s:=by apply ByteArray.ext;simp[bs]
theorem jv(l:List UInt8):(bs l).data.toList=l:=by simp[bs]
def fS:List (List UInt8)->List UInt8
 | []=>[]
 | [x]=>x
 | x :: y :: r=>x++44 :: fS (y :: r)
theorem Bh(l:List (List UInt8))(x:List UInt8)(h:l≠[]):fS (l++[x])=fS l++44 :: x:=by
 induction l with
 | nil=>exact absurd rfl h
 | cons a r c=>
  cases r with
  | nil=>simp[fS]
  | cons b r=>simp only[List.cons_append,fS]at c ⊢;rw[c zS];simp
def gq:List ByteArray->List (List UInt8)->List (List UInt8)
 | a :: r,x :: s=>(a.data.toList++58 :: x) :: gq r s
 | _,_=>[]
def us(l:List (List UInt8)):Nat:=b5 (fun x=>x.length+10) l
theorem DC(l:List (List UInt8)):(fS l).length<=us l:=by
 induction l with
 | nil=>simp[fS]
 | cons a r c=>
  cases r with
  | nil=>simp[fS,us,b5]
  | cons b r=>simp only[fS,us,b5,Zx,Zy]at c ⊢;omega
theorem yX(a:List ByteArray)(l:List (List UInt8))(h:∀s,s∈a->s.size<=8):(fS (gq a l)).length<=us l:=by
 have c:∀(a:List ByteArray)(l:List (List UInt8)),(∀s,s∈a->s.size<=8)->(fS (gq a l)).length+(if (gq a l).isEmpty then 0 else 1)<=us l:=by
  intro a;induction a with
  | nil=>intro l _;simp[gq,fS]
  | cons s r f=>
   intro l h;cases l with
   | nil=>simp[gq,fS]
   | cons x t=>
    have e:s.size<=8:=h s (Zj ..);have b:s.data.toList.length<=8:=by simpa using e
    have:=f t (fun u d=>h u (ZB _ d));simp only[gq,us,b5]at this ⊢;cases hz:gq r t with
    | nil=>simp[fS];rw[hz]at this;simp[fS]at this;simp at b;omega
    | cons y z=>rw[hz]at this;simp only[fS,Zx,Zy]at this ⊢;simp at this ⊢;simp at b;omega
 have:=c a l h;omega
theorem vF(f g:α->Nat)(l:List α)(h:∀x,x∈l->f x<=g x):b5 f l<=b5 g l:=by
 induction l with
 | nil=>simp[b5]
 | cons a r c=>have e:=h a (Zj ..);have d:=c (fun x b=>h x (ZB _ b));simp only[b5];omega
theorem yv{β:Type}(f:β->Nat)(g:α->β)(l:List α):b5 f (l.map g)=b5 (fun x=>f (g x)) l:=by
 induction l with
 | nil=>rfl
 | cons a r b=>simp only[List.map_cons,b5,b]
theorem s6(c:Nat)(f:α->Nat)(l:List α):b5 (fun x=>c*f x) l=c*b5 f l:=by
 induction l with
 | nil=>simp[b5]
 | cons a r b=>simp only[b5,b,Nat.mul_add]
theorem jD(l:List ByteArray)(h:gW l=true):∀s,s∈l->s.size<=8:=by intro s b;obtain⟨i,hi,rfl⟩:=List.getElem_of_mem b;unfold gW iQ at h;have:=ZC.1 h i (List.mem_range.2 hi);simp only[iU,Zq,gh,decide_eq_true_eq]at this;have a:=this.1.1.1.2;simpa [List.getD,hi] using a
theorem jj(l:List (List UInt8))(k:Nat):(fS (l.take k)).length<=(fS l).length:=by
 induction l generalizing k with
 | nil=>simp[fS]
 | cons a r c=>
  cases k with
  | zero=>simp[fS]
  | succ k=>
   rw[List.take_succ_cons];cases r with
   | nil=>simp[fS]
   | cons b r=>
    cases k with
    | zero=>simp[fS]
    | succ k=>have:=c (k+1);rw[List.take_succ_cons]at this ⊢;simp only[fS,Zx,Zy]at this ⊢;omega
theorem iB(l:List (List UInt8))(k:Nat)(h:k<l.length):fS (l.take (k+1))=(if k=0 then [] else fS (l.take k)++[44])++l[k]:=by
 rw[ZA h];by_cases a:k=0;·subst a;simp[fS]
 ·rw[if_neg a,Bh _ _ (by intro e;have:=congrArg List.length e;rw[List.length_take,List.length_nil]at this;omega)];simp
theorem ix(a:List ByteArray)(l:List (List UInt8))(h:a.length=l.length):(gq a l).length=l.length:=by
 induction a generalizing l with
 | nil=>cases l with
  | nil=>rfl
  | cons x r=>simp at h
 | cons s r b=>cases l with
  | nil=>simp at h
  | cons x t=>simp only[gq,Zy]at h ⊢;rw[b t om]
theorem pC(a:List ByteArray)(l:List (List UInt8))(k:Nat)(c:k<a.length)(b:k<l.length)(d:k<(gq a l).length):(gq a l)[k]=a[k].data.toList++58 :: l[k]:=by
 induction a generalizing l k with
 | nil=>simp at c
 | cons s r e=>cases l with
  | nil=>simp at b
  | cons x t=>cases k with
   | zero=>rfl
   | succ k=>
    simp only[gq,List.getElem_cons_succ]
    exact e t k (by simpa using c) (by simpa using b) (by simpa [gq] using d)
theorem mE{p:UInt8->Bool}(a b:List UInt8)(h:∀c,c∈a->p c=true)(d:∀c r,b=c :: r->p c=false):(a++b).takeWhile p=a:=by
 induction a with
 | nil=>cases b with
  | nil=>rfl
  | cons c r=>simp[d c r rfl]
 | cons x r e=>rw[List.cons_append,List.takeWhile_cons,h x (Zj ..)];simp only[if_true];rw[e (fun c f=>h c (ZB _ f))]
theorem ux{p:UInt8->Bool}(a b:List UInt8)(h:∀c,c∈a->p c=true)(d:∀c r,b=c :: r->p c=false):(a++b).dropWhile p=b:=by
 induction a with
 | nil=>cases b with
  | nil=>rfl
  | cons c r=>simp[d c r rfl]
 | cons x r e=>rw[List.cons_append,List.dropWhile_cons,h x (Zj ..)];simp only[if_true];exact e (fun c f=>h c (ZB _ f))
def jw(c:UInt8)(s:List UInt8):Option (List UInt8×List UInt8):=
 if s.contains c then Zo (s.takeWhile (· != c),s.dropWhile (· != c)) else Zn
def gA(w s:List UInt8):Option (List UInt8):=if w.isPrefixOf s then Zo (s.drop w.length) else Zn
theorem ju{w s:List UInt8}(h:gA w s=Zo r):s=w++r:=by
 unfold gA at h;split at h
 ·next hp=>
  cases h
  obtain⟨t,rfl⟩:=List.isPrefixOf_iff_prefix.1 hp;simp
 ·cases h
theorem kg(w r:List UInt8):gA w (w++r)=Zo r:=by unfold gA;rw[if_pos (List.isPrefixOf_iff_prefix.2 ⟨r,rfl⟩)];simp
theorem gQ(c:UInt8)(r:List UInt8):gA [c] (c :: r)=Zo r:=kg [c] r
theorem qY(c d:UInt8)(r:List UInt8)(h:d≠c):gA [c] (d :: r)=Zn:=by unfold gA;rw[if_neg];simp only[List.isPrefixOf,Bool.and_true,beq_iff_eq];exact fun e=>h e.symm
theorem rq{c:UInt8}{s w:List UInt8}(h:jw c s=Zo (w,r)):∃e,r=c :: e/\s=w++c :: e/\∀x,x∈w->x≠c:=by
 unfold jw at h;split at h
 ·next hc=>
  cases h
  induction s with
  | nil=>simp at hc
  | cons x s k=>
   by_cases d:x=c;·subst d;exact⟨s,zS⟩
   ·have f:s.contains c=true:=by
     have a:c=x∨c∈s:=by simpa using hc
     rcases a with a|a;·exact absurd a.symm d
     ·simpa using a
    obtain⟨e,a,i,j⟩:=k f;have g:(x != c)=true:=by simpa using d
    refine⟨e,?_,?_,?_⟩;·rw[List.dropWhile_cons,g];simpa using a
    ·rw[List.takeWhile_cons,g];simpa using i
    ·intro y b;rw[List.takeWhile_cons,g]at b;simp only[if_true]at b;rcases List.mem_cons.1 b with rfl|b;·exact d
     ·exact j y b
 ·cases h
theorem pe(c:UInt8)(w r:List UInt8)(h:∀x,x∈w->x≠c):jw c (w++c :: r)=Zo (w,c :: r):=by
 unfold jw;rw[if_pos zS];have b:∀x,x∈w->(x != c)=true:=fun x d=>by simpa using h x d
 have a:∀x y,(c :: r)=x :: y->(x != c)=false:=by intro x y e;cases e;simp
 rw[mE w (c :: r) b a,ux w (c :: r) b a]
def ji(first:Bool):List (List UInt8)->List UInt8
 | []=>[]
 | x :: r=>(if first=true then x else 44 :: x)++ji false r
theorem qw(x:List UInt8)(r:List (List UInt8)):ji false (x :: r)=44 :: fS (x :: r):=by
 induction r generalizing x with
 | nil=>simp[ji,fS]
 | cons y r a=>rw[ji,a];simp[fS]
theorem pi(l:List (List UInt8)):ji true l=fS l:=by
 cases l with
 | nil=>rfl
 | cons x r=>
  cases r with
  | nil=>simp[ji,fS]
  | cons y r=>rw[ji,qw];simp[fS]
theorem nI(h:gh s=true):∀c,c∈s.data.toList->gH c=true:=by simp only[gh,Zq]at h;exact ZC.1 h.2
theorem F6{c:UInt8}(h:gH c=true):c≠58/\c≠125/\c≠44:=by refine⟨?_,?_,?_⟩<;>(rintro rfl;exact absurd h zC)
theorem sX(h:gW l=true):∀s,s∈l->gh s=true:=by intro s b;obtain⟨i,hi,rfl⟩:=List.getElem_of_mem b;unfold gW iQ at h;have:=ZC.1 h i (List.mem_range.2 hi);simp only[iU,Zq]at this;have a:=this.1;rwa [List.getD_eq_getElem?_getD,List.getElem?_eq_getElem hi]at a
theorem Cw(c:UInt8)(l:List UInt8)(k:Nat)(h:∀x,x∈l.take k->x≠c)(a:l.drop k=c :: l.drop (k+1)):jw c l=Zo (l.take k,l.drop k):=by
 have e:l=l.take k++c :: l.drop (k+1):=by rw[<- a];simp
 conv=>lhs;rw[e]
 rw[pe c _ _ h,a]
theorem xr(c:UInt8)(l:List UInt8)(h:∀x,x∈l->x≠c):jw c l=Zn:=by
 unfold jw;rw[if_neg];intro a;have:c∈l:=by simpa using a
 exact h c this rfl
theorem lX(s:ByteArray)(i k:Nat):(s.extract i (i+k)).toList=(s.data.toList.drop i).take k:=by
 rw[ByteArray.toList_eq];have:(s.extract i (i+k)).data.toList=(s.data.toList.drop i).take k:=by simp[ByteArray.data_extract,List.extract_eq_take_drop]
 exact this
theorem FO(s:ByteArray)(i:Nat)(w:ByteArray)(a:(s.extract i (i+w.size)).toList=w.toList):gA w.data.toList (s.data.toList.drop i)=Zo (s.data.toList.drop (i+w.size)):=by
 rw[lX s i w.size,ByteArray.toList_eq]at a;unfold gA;have b:w.data.toList <+: s.data.toList.drop i:=by rw[<- a];exact List.take_prefix _ _
 rw[if_pos (List.isPrefixOf_iff_prefix.2 b),List.drop_drop];simp
theorem BJ(s:ByteArray)(i:Nat)(w:ByteArray)(hi:i<=s.size)(h:¬(i+w.size<=s.size/\(s.extract i (i+w.size)).toList=w.toList)):gA w.data.toList (s.data.toList.drop i)=Zn:=by unfold gA;rw[if_neg];intro b;obtain⟨t,a⟩:=List.isPrefixOf_iff_prefix.1 b;apply h;have c:=congrArg List.length a;simp at c;refine⟨om,?_⟩;rw[lX s i w.size,<- a,ByteArray.toList_eq];have:w.size=w.data.toList.length:=zS;rw[this,List.take_left]
theorem sy(s:ByteArray)(i k:Nat):s.extract i (i+k)=bs ((s.data.toList.drop i).take k):=by have:=lX s i k;rw[ByteArray.toList_eq]at this;rw[<- this,ru]
structure Kd(α:Type) where
 sort:Int
 names:List ByteArray
 kids:List α
def K:Nat->Type
 | 0=>Empty
 | n+1=>Kd (K n)
def lO:(n:Nat)->K n->Nat
 | 0,_=>0
 | n+1,t=>jc (Kd.names t)+b5 (fun k=>lO n k+1) (Kd.kids t)
def fP:(n:Nat)->K n->Nat
 | 0,_=>0
 | n+1,t=>1+b5 (fun k=>fP n k) (Kd.kids t)
def fW(s:Int)(l:List ByteArray)(a:Nat):Bool:=
 if s=1 then ((l.length:Int)==0) && ((a:Int)==0)
 else if s=2 then ((l.length:Int)==0) && ((a:Int)==0)
 else if s=3 then ((l.length:Int)==0) && ((a:Int)==0)
 else if s=4 then ((l.length:Int)==0) && ((a:Int)==1)
 else if s=5 then ((l.length:Int)==(a:Int)) && gW l
 else if s=6 then ((l.length:Int)==0) && ((a:Int)==1)
 else false
def lq{α:Type}(t:Kd α):Bool:=fW t.sort t.names t.kids.length
def fK:(n:Nat)->K n->Int->Bool
 | 0,_,_=>false
 | n+1,t,d=>decide (d<=6) && lq (show Kd (K n) from t) && (Kd.kids t).all (fun k=>fK n k (d+1))
def gV(n:Nat)(t:K n):Bool:=fK n t 1 && decide (fP n t<=40)
theorem s4:∀(n:Nat)(t:K n)(d:Int),fK n t d=true->1<=fP n t:=by
 intro n t d h;cases n with
 | zero=>simp[fK]at h
 | succ n=>simp only[fP];omega
def gI(n:Nat)(t:K n)(d:Int):Int:=if fK n t d=true/\fP n t<=40 then (fP n t:Int) else -1
theorem uS(n:Nat)(t:K (n+1))(d:Int)(h:(decide (d<=6) && lq (show Kd (K n) from t))=false):gI (n+1) t d = -1:=by unfold gI;rw[if_neg];rintro ⟨a,-⟩;simp only[fK,h,Bool.false_and]at a;cases a
theorem pz(n:Nat)(t:K (n+1))(d:Int)(k:Nat)(a:k<(Kd.kids t).length)(h:gI n (Kd.kids t)[k] (d+1)<0):gI (n+1) t d = -1:=by unfold gI;rw[if_neg];rintro ⟨b,c⟩;simp only[fK,Zq,ZC]at b;have e:=b.2 _ (Zg a);have f:=gX (fun k=>fP n k) (Kd.kids t) _ (Zg a);simp only[fP]at c;unfold gI at h;rw[if_pos ⟨e,om⟩]at h;omega
theorem nV(n:Nat)(t:K (n+1))(d:Int)(k:Nat)(h:40<1+b5 (fun k=>fP n k) ((Kd.kids t).take k)):gI (n+1) t d = -1:=by unfold gI;rw[if_neg];rintro ⟨-,a⟩;have:=im (fun k=>fP n k) ((Kd.kids t).take k) ((Kd.kids t).drop k);rw[List.take_append_drop]at this;simp only[fP]at a;omega
theorem mZ (n:Nat) (t:K (n+1)) (d:Int) (h:(decide (d<=6) && lq (show Kd (K n) from t))=true) (a:(Kd.kids t).all (fun k=>fK n k (d+1))=true) (b:1+b5 (fun k=>fP n k) (Kd.kids t)<=40) :
  gI (n+1) t d=1+(b5 (fun k=>fP n k) (Kd.kids t):Int):=by
 unfold gI;rw[if_pos];·simp only[fP];omega
 ·exact⟨by simp only[fK,h,a,Bool.and_self],by simp only[fP];omega⟩
theorem kS(n:Nat)(t:K n)(d:Int)(h:0<=gI n t d):gI n t d=fP n t/\fK n t d=true/\fP n t<=40:=by
 unfold gI at h ⊢;by_cases a:fK n t d=true/\fP n t<=40;·rw[if_pos a];exact⟨rfl,a⟩
 ·rw[if_neg a]at h;omega
theorem qp(n:Nat)(t:K n)(d:Int): -1<=gI n t d/\gI n t d<=40:=by unfold gI;split<;>omega
theorem Im(n:Nat)(t:K n):decide (0<gI n t 1)=gV n t:=by
 unfold gI gV;by_cases a:fK n t 1=true/\fP n t<=40;·rw[if_pos a,a.1];have:=s4 n t 1 a.1;simp[a.2];omega
 ·rw[if_neg a];cases hg:fK n t 1 with
  | false=>simp
  | true=>simp[hg]at a;simp;omega
theorem jV{p:α->Bool}{l:List α}(k:Nat)(h:k<l.length)(b:(l.take k).all p=true)(a:p l[k]=true):(l.take (k+1)).all p=true:=by rw[ZA h,List.all_append,b];simpa using a
def i8{α:Type}(f:α->List UInt8):List α->List UInt8
 | []=>[]
 | k :: _=>f k
def d9:(n:Nat)->K n->List UInt8
 | 0,_=>[]
 | n+1,t=>
  if Kd.sort t=1 then [110,117,109]
  else if Kd.sort t=2 then [116,101,120,116]
  else if Kd.sort t=3 then [102,108,97,103]
  else if Kd.sort t=4 then 91 :: i8 (d9 n) (Kd.kids t)++[93]
  else if Kd.sort t=6 then 63 :: i8 (d9 n) (Kd.kids t)
  else 123 :: fS (gq (Kd.names t) ((Kd.kids t).map (d9 n)))++[125]
theorem nM:∀(n:Nat)(t:K n)(d:Int),fK n t d=true->(d9 n t).length+10<=24*fP n t:=by
 intro n;induction n with
 | zero=>intro t d h;simp[fK]at h
 | succ n o=>
  intro t d h;simp only[fK,Zq]at h;have a:fW (Kd.sort t) (Kd.names t) (Kd.kids t).length=true:=h.1.2;have i:=ZC.1 h.2;have b:us ((Kd.kids t).map (d9 n))<=24*b5 (fun x=>fP n x) (Kd.kids t):=by unfold us;rw[yv,<- s6];exact vF _ _ _ fun x q=>o x (d+1) (i x q)
  have p:fP (n+1) t=1+b5 (fun x=>fP n x) (Kd.kids t):=rfl;rw[p];have e:(i8 (d9 n) (Kd.kids t)).length<=24*b5 (fun x=>fP n x) (Kd.kids t):=by
   cases hkk:Kd.kids t with
   | nil=>simp[i8]
   | cons k r=>have c:=o k (d+1) (i k (by rw[hkk];exact Zj ..));simp only[i8,b5];omega
  unfold fW at a;simp only[d9];by_cases c:Kd.sort t=1;·rw[if_pos c];simp;omega
  rw[if_neg c]at a ⊢;by_cases g:Kd.sort t=2;·rw[if_pos g];simp;omega
  rw[if_neg g]at a ⊢;by_cases l:Kd.sort t=3;·rw[if_pos l];simp;omega
  rw[if_neg l]at a ⊢;by_cases m:Kd.sort t=4;·rw[if_pos m];simp only[Zx,Zy,List.length_nil];omega
  rw[if_neg m]at a ⊢;by_cases f:Kd.sort t=6;·rw[if_pos f];simp only[Zy];omega
  rw[if_neg f];by_cases j:Kd.sort t=5;·rw[if_pos j]at a;simp only[Zq]at a;have:=yX (Kd.names t) ((Kd.kids t).map (d9 n)) (jD _ a.2);simp only[Zx,Zy,List.length_nil];omega
  ·rw[if_neg j,if_neg f]at a;cases a
theorem B0:∀(n:Nat)(t:K n)(d:Int),fK n t d=true->d9 n t≠[]:=by
 intro n t d h;cases n with
 | zero=>simp[fK]at h
 | succ n=>
  simp only[d9];split;·simp
  split;·simp
  split;·simp
  split;·simp
  split;·simp
  ·simp
theorem ie{t:K n}(h:gV n t=true):fK n t 1=true/\fP n t<=40:=by simpa only[gV,Zq,decide_eq_true_eq] using h
theorem tG{a b:ByteArray}(h:a=b):Ending.returned (Zt a)=Zr (Zt b):=by rw[h]
def jO(parts:List (List UInt8))(k:Nat):ByteArray:=bs (fS (parts.take k))
theorem yf(parts:List (List UInt8))(k:Nat)(h:k<parts.length)(a:¬k=0):jO parts (k+1)=jO parts k++bs [44]++bs parts[k]:=by unfold jO;rw[iB _ _ h,if_neg a,gB,gB]
theorem vS(parts:List (List UInt8))(h:0<parts.length):jO parts (0+1)=bs []++bs parts[0]:=by unfold jO;rw[iB _ _ h,if_pos rfl,gB]
def jk{α:Type}(f:List UInt8->Option (α×List UInt8)):Nat->List ByteArray->List α->List UInt8->Option (List ByteArray×List α×List UInt8)
 | 0,_,_,_=>Zn
 | k+1,ns,acc,s=>
  match gA [125] s with
  | some r=>Zo (ns,acc,r)
  | none=>
   match (if ns.length=0 then Zo s else gA [44] s) with
   | none=>Zn
   | some a=>
    match jw 58 a with
    | none=>Zn
    | some (w,s2)=>
     match f (s2.drop 1) with
     | none=>Zn
     | some (t,r)=>jk f k (ns++[bs w]) (acc++[t]) r
def nG{α:Type}(f:List UInt8->Option (α×List UInt8))(a:List UInt8)(s:List UInt8):Option (α×List UInt8):=
 match f s with
 | none=>Zn
 | some (k,r)=>
  match gA a r with
  | none=>Zn
  | some b=>Zo (k,b)
def gb:(n:Nat)->List UInt8->Option (K n×List UInt8)
 | 0,_=>Zn
 | n+1,s=>
  match gA [110,117,109] s with
  | some r=>Zo ((⟨1,[],[]⟩:Kd (K n)),r)
  | none=>
  match gA [116,101,120,116] s with
  | some r=>Zo ((⟨2,[],[]⟩:Kd (K n)),r)
  | none=>
  match gA [102,108,97,103] s with
  | some r=>Zo ((⟨3,[],[]⟩:Kd (K n)),r)
  | none=>
  match gA [91] s with
  | some r=>
   match nG (gb n) [93] r with
   | none=>Zn
   | some (k,r')=>Zo ((⟨4,[],[k]⟩:Kd (K n)),r')
  | none=>
  match gA [63] s with
  | some r=>
   match nG (gb n) [] r with
   | none=>Zn
   | some (k,r')=>Zo ((⟨6,[],[k]⟩:Kd (K n)),r')
  | none=>
  match gA [123] s with
  | some r=>
   match jk (gb n) (r.length+1) [] [] r with
   | none=>Zn
   | some (ns,ks,r')=>Zo ((⟨5,ns,ks⟩:Kd (K n)),r')
  | none=>Zn
theorem j7(c:UInt8)(w:List UInt8)(d:UInt8)(r:List UInt8)(h:d≠c):gA (c :: w) (d :: r)=Zn:=by unfold gA;rw[if_neg];simp only[List.isPrefixOf,Zq,beq_iff_eq,not_and];exact fun e=>absurd e.symm h
theorem Fm(s:List UInt8):gA [] s=Zo s:=by simp[gA]
theorem ze (f:List UInt8->Option (α × List UInt8)) (txt:α->List UInt8) (o:∀ s t r,f s=Zo (t,r)->s=txt t++r)
  (fuel:Nat) (a:List ByteArray) (acc:List α) (s:List UInt8) (i:List ByteArray) (l:List α) (r:List UInt8) (h:jk f fuel a acc s=Zo (i,l,r)) :
  ∃b d,i=a++b/\l=acc++d/\b.length=d.length/\s=ji (decide (a.length=0)) (gq b (d.map txt))++125 :: r:=by
 induction fuel generalizing a acc s with
 | zero=>simp[jk]at h
 | succ k z=>
  rw[jk]at h;cases h1:gA [125] s with
  | some A=>rw[h1]at h;simp only[Option.some.injEq,Prod.mk.injEq]at h;obtain⟨rfl,rfl,rfl⟩:=h;exact⟨[],[],zS,zS,rfl,by simpa [ji,gq] using ju h1⟩
  | none=>
   rw[h1]at h;simp only at h;cases h2:(if a.length=0 then Zo s else gA [44] s) with
   | none=>rw[h2]at h;cases h
   | some u=>
    rw[h2]at h;simp only at h;cases hu:jw 58 u with
    | none=>rw[hu]at h;cases h
    | some x=>
    obtain⟨w,B⟩:=x;rw[hu]at h;simp only at h;obtain⟨y,p,m,D⟩:=rq hu;subst p;simp only[List.drop_succ_cons,List.drop_zero]at h;cases h3:f y with
    | none=>rw[h3]at h;cases h
    | some x=>
     obtain⟨t,C⟩:=x;rw[h3]at h;simp only at h;have j:=o _ _ _ h3;obtain⟨b,d,v,n,q,g⟩:=z _ _ _ h;have c:decide ((a++[bs w]).length=0)=false:=zS;rw[c]at g;refine⟨bs w :: b,t :: d,by simpa using v,by simpa using n,by simp[q],?_⟩;simp only[List.map_cons,gq,ji,List.append_assoc,jv];by_cases e:a.length=0
     ·rw[if_pos e]at h2;cases h2
      simp only[e,decide_true,if_true,List.append_assoc,List.cons_append];rw[<- g,<- j];exact m
     ·rw[if_neg e]at h2;simp only[e,decide_false,Bool.false_eq_true,if_false,List.cons_append,List.append_assoc];rw[<- g,<- j,<- m];exact ju h2
theorem vj{f:List UInt8->Option (α×List UInt8)}{c s:List UInt8}{k:α}(h:nG f c s=Zo (k,r)):∃a,f s=Zo (k,a)/\a=c++r:=by
 unfold nG at h;cases h1:f s with
 | none=>rw[h1]at h;cases h
 | some x=>
  obtain⟨t,a⟩:=x;rw[h1]at h;simp only at h;cases h2:gA c a with
  | none=>rw[h2]at h;cases h
  | some b=>rw[h2]at h;cases h;exact⟨a,rfl,ju h2⟩
theorem wE:∀(n:Nat)(s:List UInt8)(k:K n)(r:List UInt8),gb n s=Zo (k,r)->s=d9 n k++r:=by
 intro n;induction n with
 | zero=>intro s k r h;simp[gb]at h
 | succ n c=>
  intro s k r h;rw[gb]at h;split at h;·next r1 h1=>cases h;simpa [d9] using ju h1
  split at h;·next r1 h1=>cases h;simpa [d9] using ju h1
  split at h;·next r1 h1=>cases h;simpa [d9] using ju h1
  split at h
  ·next r1 h1=>
   cases h2:nG (gb n) [93] r1 with
   | none=>rw[h2]at h;cases h
   | some x=>
    obtain⟨a,g⟩:=x;rw[h2]at h;cases h
    obtain⟨j,b,e⟩:=vj h2;have:=c _ _ _ b;rw[ju h1,this,e];simp[d9,i8]
  split at h
  ·next r1 h1=>
   cases h2:nG (gb n) [] r1 with
   | none=>rw[h2]at h;cases h
   | some x=>
    obtain⟨a,g⟩:=x;rw[h2]at h;cases h
    obtain⟨j,b,e⟩:=vj h2;have:=c _ _ _ b;rw[ju h1,this,e];simp[d9,i8]
  split at h
  ·next r1 h1=>
   cases h2:jk (gb n) (r1.length+1) [] [] r1 with
   | none=>rw[h2]at h;cases h
   | some x=>
    obtain⟨o,p,g⟩:=x;rw[h2]at h;cases h
    obtain⟨l,i,f,a,m,d⟩:=ze _ (d9 n) (fun s t r h=>c s t r h) _ _ _ _ _ _ _ h2;simp only[List.nil_append]at f a;subst f a;simp only[List.length_nil,decide_true,pi]at d;rw[ju h1,d];simp[d9]
  ·cases h
theorem tI (f:List UInt8->Option (α × List UInt8)) (txt:α->List UInt8) (g:List α) (w:∀ k,k∈g->∀ a,f (txt k++a)=Zo (k,a))
  (b:List ByteArray) (n:∀s,s∈b->gh s=true) (d:b.length=g.length) (fuel:Nat) (h:List ByteArray) (acc:List α) (a:List UInt8) (i:g.length<fuel) :
  jk f fuel h acc (ji (decide (h.length=0)) (gq b (g.map txt))++125 :: a)=Zo (h++b,acc++g,a):=by
 induction g generalizing fuel h acc b with
 | nil=>
  have:b=[]:=Zz (by simpa using d);subst this;cases fuel with
  | zero=>simp at i
  | succ k=>simp[jk,ji,gq,gQ]
 | cons x g A=>
  cases b with
  | nil=>simp at d
  | cons m b=>
  cases fuel with
  | zero=>omega
  | succ k=>
   have v:=n m (Zj ..);have j:=nI v;have z:1<=m.size:=by simp only[gh,Zq,decide_eq_true_eq]at v;exact v.1.1.1
   have step:=w x (Zj ..) (ji false (gq b (g.map txt))++125 :: a);have rest:=A (fun k B=>w k (ZB _ B)) b (fun s C=>n s (ZB _ C)) (by simpa using d) k (h++[m]) (acc++[x]) (by simp at i;omega);have p:decide ((h++[m]).length=0)=false:=zS;rw[p]at rest;have l:=pe 58 m.data.toList (txt x++(ji false (gq b (g.map txt))++125 :: a)) (fun c y=>(F6 (j c y)).1);have o:∃c r,m.data.toList=c :: r:=by
    cases hd:m.data.toList with
    | nil=>
     have E:m.data.toList.length=0:=by rw[hd];rfl
     have D:m.data.toList.length=m.size:=zS;omega
    | cons c r=>exact⟨c,r,rfl⟩
   obtain⟨c,r,e⟩:=o;have t:=F6 (j c (by rw[e];exact Zj ..));simp only[List.map_cons,gq,ji,List.append_assoc];by_cases q:h.length=0
   ·simp only[q,decide_true,if_true,List.append_assoc,List.cons_append];rw[jk];have u:gA [125] (m.data.toList++58 :: (txt x++(ji false (gq b (g.map txt))++125 :: a)))=Zn:=by rw[e,List.cons_append];exact qY _ _ _ t.2.1
    rw[u];simp only[q,if_true];rw[l];simp only[List.drop_succ_cons,List.drop_zero];rw[step];simp only[ru];rw[rest];simp
   ·simp only[q,decide_false,if_false,Bool.false_eq_true,List.append_assoc,List.cons_append];rw[jk,qY _ _ _ zC];simp only[q,if_false,gQ];rw[l];simp only[List.drop_succ_cons,List.drop_zero];rw[step];simp only[ru];rw[rest];simp
theorem yE(l:List (List UInt8))(h:∀x,x∈l->x≠[]):∀b,l.length<=(ji b l).length:=by
 induction l with
 | nil=>intro b;simp
 | cons x r d=>
  intro b;have f:=d (fun y a=>h y (ZB _ a)) false;have e:1<=x.length:=by
   cases x with
   | nil=>exact absurd rfl (h [] (Zj ..))
   | cons c y=>simp
  simp only[ji,Zx,Zy];split;·omega
  ·simp only[Zy];omega
theorem Gx(a:List ByteArray)(l:List (List UInt8)):∀x,x∈gq a l->x≠[]:=by
 induction a generalizing l with
 | nil=>intro x b;simp[gq]at b
 | cons s r c=>
  intro x b;cases l with
  | nil=>simp[gq]at b
  | cons y t=>
   simp only[gq]at b;rcases List.mem_cons.1 b with rfl|b;·simp
   ·exact c t x b
theorem rE:∀(n:Nat)(k:K n)(d:Int)(a:List UInt8),fK n k d=true->gb n (d9 n k++a)=Zo (k,a):=by
 intro n;induction n with
 | zero=>intro k d a h;simp[fK]at h
 | succ n z=>
  intro k d a h;simp only[fK,Zq]at h;have b:fW (Kd.sort k) (Kd.names k) (Kd.kids k).length=true:=h.1.2;have o:=ZC.1 h.2;obtain⟨l,na,f⟩:Kd (K n):=k;simp only at b o;unfold fW at b;have one:∀(c:List UInt8),(f.length:Int)=1->∃x,f=[x]/\∀a,nG (gb n) c (d9 n x++(c++a))=Zo (x,a):=by
   intro c p;match f,p,o with
   | [x],_,o=>refine⟨x,rfl,fun a=>?_⟩;unfold nG;rw[z x (d+1) (c++a) (o x (Zj ..))];simp only[kg]
  by_cases m:l=1
  ·rw[if_pos m]at b;simp only[Zq,beq_iff_eq]at b;have i:na=[]:=Zz (by have:=b.1;omega);have j:f=[]:=Zz (by have:=b.2;omega);subst i j m;have e:d9 (n+1) (⟨1,[],[]⟩:Kd (K n))=[110,117,109]:=by simp[d9]
   rw[e,gb,kg]
  rw[if_neg m]at b;by_cases q:l=2
  ·rw[if_pos q]at b;simp only[Zq,beq_iff_eq]at b;have i:na=[]:=Zz (by have:=b.1;omega);have j:f=[]:=Zz (by have:=b.2;omega);subst i j q;have e:d9 (n+1) (⟨2,[],[]⟩:Kd (K n))=[116,101,120,116]:=by simp[d9]
   rw[e,gb,kg];simp[gA,List.isPrefixOf]
  rw[if_neg q]at b;by_cases u:l=3
  ·rw[if_pos u]at b;simp only[Zq,beq_iff_eq]at b;have i:na=[]:=Zz (by have:=b.1;omega);have j:f=[]:=Zz (by have:=b.2;omega);subst i j u;have e:d9 (n+1) (⟨3,[],[]⟩:Kd (K n))=[102,108,97,103]:=by simp[d9]
   rw[e,gb,kg];simp[gA,List.isPrefixOf]
  rw[if_neg u]at b;by_cases v:l=4
  ·rw[if_pos v]at b;simp only[Zq,beq_iff_eq]at b;have i:na=[]:=Zz (by have:=b.1;omega);obtain⟨x,j,w⟩:=one [93] b.2;subst i j v;have e:d9 (n+1) (⟨4,[],[x]⟩:Kd (K n))++a=91 :: (d9 n x++([93]++a)):=by simp[d9,i8]
   rw[e,gb,j7 110 _ 91 _ zC,j7 116 _ 91 _ zC,j7 102 _ 91 _ zC,gQ];simp only[w]
  rw[if_neg v]at b;by_cases t:l=5
  ·rw[if_pos t]at b;simp only[Zq,beq_iff_eq]at b;have p:na.length=f.length:=by have:=b.1;omega
   subst t;have e:d9 (n+1) (⟨5,na,f⟩:Kd (K n))++a=123 :: (ji true (gq na (f.map (d9 n)))++125 :: a):=by simp[d9,pi]
   have s:f.length<(ji true (gq na (f.map (d9 n)))++125 :: a).length+1:=by have m:=yE (gq na (f.map (d9 n))) (Gx _ _) true;rw[ix _ _ (by simpa using p),List.length_map]at m;simp only[Zx,Zy];omega
   have g:=tI (gb n) (d9 n) f (fun k r a=>z k (d+1) a (o k r)) na (sX b.2) p _ [] [] a s;simp only[List.length_nil,decide_true,List.nil_append]at g;rw[e,gb,j7 110 _ 123 _ zC,j7 116 _ 123 _ zC,j7 102 _ 123 _ zC,j7 91 _ 123 _ zC,j7 63 _ 123 _ zC,gQ];simp only[g]
  rw[if_neg t]at b;by_cases y:l=6
  ·rw[if_pos y]at b;simp only[Zq,beq_iff_eq]at b;have i:na=[]:=Zz (by have:=b.1;omega);obtain⟨x,j,w⟩:=one [] b.2;subst i j y;have e:d9 (n+1) (⟨6,[],[x]⟩:Kd (K n))++a=63 :: (d9 n x++([]++a)):=by simp[d9,i8]
   rw[e,gb,j7 110 _ 63 _ zC,j7 116 _ 63 _ zC,j7 102 _ 63 _ zC,j7 91 _ 63 _ zC,gQ];simp only[w]
  ·rw[if_neg y]at b;cases b
def iO(n:Nat)(s:ByteArray):Option (K n):=
 if s.size<=800 then
  match gb n s.data.toList with
  | some (k,[])=>if gV n k=true then Zo k else Zn
  | _=>Zn
 else Zn
theorem j9{k:K n}(h:iO n s=Zo k):s.size<=800/\gV n k=true/\d9 n k=s.data.toList:=by
 unfold iO at h;split at h
 ·next h8=>
  split at h
  ·next k' hp=>
   split at h
   ·next hok=>
    cases h
    exact⟨h8,hok,by have:=wE n _ _ _ hp;simpa using this.symm⟩
   ·cases h
  ·cases h
 ·cases h
theorem Et{k:K n}(b:s.size<=800)(a:gV n k=true)(c:d9 n k=s.data.toList):iO n s=Zo k:=by unfold iO;rw[if_pos b,<- c];have:=rE n k 1 [] (ie a).1;rw[List.append_nil]at this;rw[this];simp only[a,if_true]
structure b7(bb:Nat)(w w':Zw):Prop where
 os:w'.os=w.os
 tape:w'.tape=w.tape
 output:w'.output=w.output
 size:w.heap.size<=w'.heap.size
 block:∀k,k<w.heap.size->k≠bb->w'.heap[k]?=w.heap[k]?
theorem b7.refl(bb:Nat)(w:Zw):b7 bb w w:=⟨rfl,rfl,rfl,Zl _,fun _ _ _=>rfl⟩
theorem b7.trans{b:Zw}(h:b7 bb a b)(k:b7 bb b c):b7 bb a c:=
 ⟨k.os.trans h.os,k.tape.trans h.tape,k.output.trans h.output,Nat.le_trans h.size k.size,fun i hi d=>(k.block i (Zd hi h.size) d).trans (h.block i hi d)⟩
theorem b7.of_below{b:Zw}(h:Bw a b):b7 bb a b:=⟨h.os,h.tape,h.output,h.size,fun k c _=>h.block k c⟩
theorem b7.set(bb o:Nat)(w:Zw)(v:Zv):b7 bb w (w.setCell ⟨bb,o,Zn⟩ v):=⟨rfl,rfl,rfl,zS,fun k _ a=>ZD _ _ _ _ a⟩
theorem b7.alloc(bb:Nat)(w:Zw)(o:Obj):b7 bb w (w.alloc o):=.of_below (gF _ o)
theorem b7.below{b:Zw}(h:b7 bb a b)(d:B<=bb)(c:B<=a.heap.size):Below B a b:=⟨h.os,h.tape,h.output,h.size,fun k e=>h.block k om om⟩
def la(w:Zw)(a:Nat)(p:Int):Prop:=w.heap[a]?=Zo (Zc #[Zi Zk p] 3 (0,0))
theorem la.cell(h:la w pb p):w.cell? ⟨pb,0,Zn⟩=Zo (Zi Zk p):=by unfold la at h;simp[World.cell?,h]
theorem la.free(h:la w pb p):w.frozen? ⟨pb,0,Zn⟩=false:=by unfold la at h;simp[World.frozen?,h]
theorem la.lt(h:la w pb p):pb<w.heap.size:=by unfold la at h;exact (Array.getElem?_eq_some_iff.1 h).1
theorem la.set(h:la w pb p)(q:Int):la (w.setCell ⟨pb,0,Zn⟩ (Zi Zk q)) pb q:=by unfold la at h ⊢;simp[World.setCell,Array.getElem?_modify,h]
theorem la.new(w:Zw)(p:Int):la (w.alloc (Zc #[Zi Zk p] 3)) w.heap.size p:=by show (w.heap.push _)[w.heap.size]?=_;simp
theorem la.keep(h:la w pb p)(a:Bw w w'):la w' pb p:=(a.block pb h.lt).trans h
theorem b7.same(h:b7 pb w w')(c:∀b,S b->b<w.heap.size/\b≠pb):jy S w w':=fun b a=>h.block b (c b a).1 (c b a).2
theorem b7.drew(h:b7 pb w w'):b7 pb w w'.drew:=⟨h.os,h.tape,h.output,h.size,h.block⟩
theorem b7.cell(h:b7 pb w w')(e:w.cell? ⟨b,o,Zn⟩=Zo v)(d:b≠pb):w'.cell? ⟨b,o,Zn⟩=Zo v:=by
 have c:b<w.heap.size:=Classical.byContradiction fun f=>by have:w.heap[b]?=Zn:=Array.getElem?_eq_none om;simp[World.cell?,this]at e
 exact (World.cell?_of_block (w:=w) (w':=w') (a:=⟨b,o,Zn⟩) (h.block b c d)).trans e
theorem b8(h:w.cell? ⟨b,o,Zn⟩=Zo v):b<w.heap.size:=
 Classical.byContradiction fun a=>by
  have:w.heap[b]?=Zn:=Array.getElem?_eq_none om
  simp[World.cell?,this]at h
structure GQ(w:Zw)(pb mb ab:Nat)(p M:Int)(F:Nat):Prop where
 parts:la w pb p
 max:w.cell? ⟨mb,0,Zn⟩=Zo (Zi Zk M)
 acc:w.cell? ⟨ab,0,Zn⟩=Zo (.func (.func F) #[] #[])
 nm:mb≠pb
 na:ab≠pb
theorem GQ.keep{c a:Nat}{q M:Int}{F:Nat}(h:GQ w pb c a p M F)(b:b7 pb w w')(d:la w' pb q):GQ w' pb c a q M F:=
 ⟨d,b.cell h.max h.nm,b.cell h.acc h.na,h.nm,h.na⟩
theorem fO{k:IntKind}{a b:Int}(h:a=b):Ending.returned (Zi k a)=Zr (Zi k b):=by rw[h]
theorem jG{a b:ByteArray}(h:a=b):Ending.returned (Zt a)=Zr (Zt b):=by rw[h]
set_option maxRecDepth 100000
set_option maxHeartbeats 16000000
theorem b6{a b:Bool}(h:a=b):Ending.returned (Zb a)=Zr (Zb b):=by rw[h]
def sZ(n:Int):Bool:=decide (48<=n/\n<=57)
theorem lh(x:Int)(w:Zw)(_h0:0<=x)(_h1:x<=255):Calls prog 115 #[Zi .u8 x] w fun e b=>e=Zr (Zb (sZ x))/\b=w:=by
 by_cases h:48<=x<;>by_cases a:x<=57;all_goals
  go_in
  go_wp2
  go_ret
  exact⟨b6 (by simp[sZ,h,a];try omega),rfl⟩
theorem GA(s:ByteArray)(h:0<s.size):s.data.toList.headD 0=s[0]:=by
 cases hx:s.data.toList with
 | nil=>have:=congrArg List.length hx;simp at this;simp[this]at h
 | cons a r=>simp[ByteArray.getElem_eq_getElem_data,<- Array.getElem_toList,hx]
theorem Ad(c:UInt8)(h:gH c=true):pg c = !sZ c.toNat:=by
 unfold gH at h;rw[decide_eq_true_eq]at h;unfold pg sZ;rcases h with h|h;·rw[decide_eq_true h,decide_eq_false om];rfl
 ·rw[decide_eq_false om,decide_eq_true h];rfl
theorem Ff(s:ByteArray)(c:1<=s.size)(a:s.size<=8):gh s=(!sZ (s[0].toNat:Int) && s.data.toList.all gH):=by
 unfold gh;rw[GA s om];cases hall:s.data.toList.all gH with
 | false=>simp
 | true=>have b:gH s[0]=true:=ZC.1 hall _ (by simp[ByteArray.getElem_eq_getElem_data]);rw[Ad _ b];simp[c,a]
theorem k6(s:ByteArray)(w:Zw)(y:s.size<=maxLen):Calls prog 81 #[Zt s] w fun e m=>e=Zr (Zb (gh s))/\m=w:=by
 unfold maxLen at y;by_cases q:1<=s.size/\s.size<=8
 ·obtain⟨o,p⟩:=q;have u:Hid (gh s=(!sZ (s[0].toNat:Int) && s.data.toList.all gH)):=Ff s o p;have d:∀k (h:k<s.size),(s[k].toNat:Int)<=255:=fun k h=>by have:=s[k].toNat_lt;omega
  have f:=d 0 om;cases hd:sZ (s[0].toNat:Int) with
  | true=>
   have j:Hid (gh s=false):=by show _=_;rw[u.out,hd];simp
   clear d;go_in;go_wp2_with fail;refine (lh _ _ om f).mono ?_;rintro e m ⟨rfl,rfl⟩;rw[hd];go_wp2;go_ret;exact⟨b6 j.out.symm,rfl⟩
  | false=>
   have t:=a7 hd;have z:=a7 d;clear d hd;go_in;go_wp2_with fail;refine (lh _ _ om f).mono ?_;rintro e m ⟨rfl,rfl⟩;rw[t.out];go_wp2;go_loop [19] (fun i=>∃k:Nat,k<=s.size/\i=Zi Zk k/\(s.data.toList.take k).all gH=true) (fun i=>s.size-(intOf i).toNat);case atStart=>exact⟨0,ZE _,rfl,zS⟩
   case round=>
    obtain⟨k,A,rfl,g⟩:=hrel;have r:=a7 g;clear g;by_cases c:k<s.size
    ·have l:=z.out k c;have a:Hid (sZ (s[k].toNat:Int)=decide (48<=(s[k].toNat:Int)/\(s[k].toNat:Int)<=57)):=rfl;cases hb:gH s[k] with
     | true=>
      have v:Hid (gH s[k]=true):=hb;unfold gH at hb;rw[decide_eq_true_eq]at hb;rcases hb with ⟨n,x⟩|⟨n,x⟩
      ·have b:sZ (s[k].toNat:Int)=false:=by rw[a.out];exact decide_eq_false om
       go_wp2_with (go_at_call 115;refine (lh _ _ om l).mono ?_;rintro e m ⟨rfl,rfl⟩;rw[b]);go_round;case rel=>exact⟨k+1,om,by go_num,jU k c r.out v.out⟩
       case measure=>simp[intOf];omega
      ·have b:sZ (s[k].toNat:Int)=true:=by rw[a.out];exact decide_eq_true ⟨om,om⟩
       go_wp2_with (go_at_call 115;refine (lh _ _ om l).mono ?_;rintro e m ⟨rfl,rfl⟩;rw[b]);go_round;case rel=>exact⟨k+1,om,by go_num,jU k c r.out v.out⟩
       case measure=>simp[intOf];omega
     | false=>
      have j:Hid (gh s=false):=by show _=_;rw[gh,lD k c hb];simp
      unfold gH at hb;rw[decide_eq_false_iff_not]at hb;have b:sZ (s[k].toNat:Int)=false:=by rw[a.out];exact decide_eq_false om
      rcases (show (s[k].toNat:Int)<97∨122<(s[k].toNat:Int) by omega) with n|n;all_goals
       clear hb
       go_wp2_with (go_at_call 115;refine (lh _ _ om l).mono ?_;rintro e m ⟨rfl,rfl⟩;rw[b])
       go_ret
       exact⟨b6 j.out.symm,rfl⟩
    ·have j:Hid (gh s=true):=by show _=_;rw[u.out,t.out,lK k om r.out];simp
     go_wp2;go_ret;exact⟨b6 j.out.symm,rfl⟩
 ·have j:Hid (gh s=false):=by show _=_;rw[gh,decide_eq_false q];simp
  rcases (show s.size<1∨8<s.size by omega) with n|n;all_goals
   clear q
   go_in
   go_wp2
   go_ret
   exact⟨b6 j.out.symm,rfl⟩
theorem uD(x:Int)(w:Zw):Calls prog 226 #[Zi Zk x] w fun e a=>e=Zr (Zb (decide (-999999999<=x/\x<=999999999)))/\a=w:=by
 by_cases h : -999999999<=x<;>by_cases b:x<=999999999;all_goals
  go_in
  go_wp2
  go_ret
  exact⟨b6 (by simp[h,b];try omega),rfl⟩
theorem te(s:ByteArray)(w:Zw)(l:s.size<=maxLen):Calls prog 227 #[Zt s] w fun e j=>e=Zr (Zb (kf s))/\j=w:=by
 unfold maxLen at l;by_cases d:s.size<=60
 ·go_in;go_wp2;go_loop [9] (fun i=>∃k:Nat,k<=s.size/\i=Zi Zk k/\(s.data.toList.take k).all ml=true) (fun i=>s.size-(intOf i).toNat);case atStart=>exact⟨0,ZE _,rfl,zS⟩
  case round=>
   obtain⟨k,p,rfl,a⟩:=hrel;have g:=a7 a;clear a;by_cases b:k<s.size
   ·cases hb:ml s[k] with
    | true=>
     have m:Hid (ml s[k]=true):=hb;unfold ml at hb;rw[decide_eq_true_eq]at hb;obtain⟨o,n,f⟩:=hb;have h:((s[k].toNat:Int)==34)=false:=by simpa using f
     clear f;go_wp2;go_round;case rel=>exact⟨k+1,om,by go_num,jU k b g.out m.out⟩
     case measure=>simp[intOf];omega
    | false=>
     have c:Hid (kf s=false):=by show _=_;rw[kf,lD k b hb];simp
     unfold ml at hb;rw[decide_eq_false_iff_not]at hb;go_wp2;all_goals first
      | (go_ret;exact⟨b6 c.out.symm,rfl⟩)
      | (exfalso;apply hb;simp_all)
   ·have c:Hid (kf s=true):=by show _=_;rw[kf,lK k om g.out];simp[d]
    go_wp2;go_ret;exact⟨b6 c.out.symm,rfl⟩
 ·go_in;go_wp2;go_ret;exact⟨b6 (by simp[kf,d]),rfl⟩
theorem mO (S:Nat->Prop) (l:List ByteArray) (v:Zv) (w:Zw) (A:fL S w l v) :
  Calls prog 192 #[v] w fun e g=>e=Zr (Zb (gW l))/\g=w:=by
 obtain⟨D,cap,rfl,t,o,n⟩:=A;unfold maxLen at t;go_in;go_wp2;go_loop [7] (fun i=>∃k:Nat,k<=l.length/\i=Zi Zk k/\iQ l k=true) (fun i=>l.length-(intOf i).toNat);case atStart=>exact⟨0,ZE _,rfl,by simp[iQ]⟩
 case round=>
  obtain⟨k,C,rfl,m⟩:=hrel;have x:Hid (iQ l k=true):=m;clear m;by_cases d:k<l.length
  ·obtain⟨b,off,rfl,B,a⟩:=n (by intro h;rw[h]at d;simp at d);have f0:=a k d;have u:=o l[k] (Zg d);have c:l.getD k Ze=l[k]:=by simp[List.getD,d]
   cases hnm:gh l[k] with
   | false=>
    have q:Hid (gW l=false):=lE l k d (by simp only[iU,c,hnm,Bool.false_and]);have p:Hid (∀w,Calls prog 81 #[Zt l[k]] w fun e g=>e=Zr (Zb false)/\g=w):=fun w=>by rw[<- hnm];exact k6 _ w u
    clear n o a c hnm;generalize l[k]=s at *;go_wp2_with (go_at_call 81;refine (p.out _).mono ?_;rintro e g ⟨rfl,rfl⟩);go_ret;exact⟨b6 q.out.symm,rfl⟩
   | true=>
    have p:Hid (∀w,Calls prog 81 #[Zt l[k]] w fun e g=>e=Zr (Zb true)/\g=w):=fun w=>by rw[<- hnm];exact k6 _ w u
    rcases Nat.eq_zero_or_pos k with rfl|z
    ·have y:Hid (iQ l (0+1)=true):=by show _=_;rw[mD,x.out,iU,c,hnm];rfl
     clear n o a c hnm;rw[Nat.add_zero]at f0;generalize l[0]=s at *;go_wp2_with (go_at_call 81;refine (p.out _).mono ?_;rintro e g ⟨rfl,rfl⟩);go_round;case rel=>exact⟨0+1,om,by go_num,y.out⟩
     case measure=>simp[intOf];omega
    ·obtain⟨j,rfl⟩:∃j,k=j+1:=⟨k-1,om⟩;have f1:=a j om;have f:l.getD j Ze=l[j]:=by simp[List.getD,show j<l.length by omega]
     cases hlt':kJ l[j] l[j+1] with
     | false=>have q:Hid (gW l=false):=lE l (j+1) d (by simp only[iU,c,Nat.add_sub_cancel,f,hlt'];simp);unfold kJ at hlt';clear n o a c f hnm;generalize l[j]=r at *;generalize l[j+1]=s at *;go_wp2_with (go_at_call 81;refine (p.out _).mono ?_;rintro e g ⟨rfl,rfl⟩);go_ret;exact⟨b6 q.out.symm,rfl⟩
     | true=>
      have y:Hid (iQ l (j+1+1)=true):=by show _=_;rw[mD,x.out,iU,c,hnm,Nat.add_sub_cancel,f,hlt'];simp
      unfold kJ at hlt';clear n o a c f hnm;generalize l[j]=r at *;generalize l[j+1]=s at *;go_wp2_with (go_at_call 81;refine (p.out _).mono ?_;rintro e g ⟨rfl,rfl⟩);go_round;case rel=>exact⟨j+1+1,om,by go_num,y.out⟩
      case measure=>simp[intOf];omega
  ·have q:Hid (gW l=true):=by show _=_;rw[gW,show l.length=k by omega];exact x.out
   clear n o;go_wp2;go_ret;exact⟨b6 q.out.symm,rfl⟩
theorem IL (m:Int) (x:ByteArray) (l:List ByteArray) (c:Option Addr) (b f:Nat) (w:Zw) (na:Option Addr) (d:Nat) :
  Calls prog 208 #[Za #[Zi Zk 1,Zi Zk m,Zt x,Zs na l.length d,Zs c b f]] w fun e a=>e=Zr (Zb (decide (-999999999<=m/\m<=999999999) && x.toList.isEmpty && ((l.length:Int)==0) && ((b:Int)==0)))/\Bw w a:=by
 go_in;go_wp2_with (go_at_call 226;refine (uD _ _).mono ?_;rintro e a ⟨rfl,rfl⟩);all_goals
  go_ret
  exact⟨b6 (by simp_all),gF _ _⟩
theorem IQ (m:Int) (x:ByteArray) (l:List ByteArray) (c:Option Addr) (b g:Nat) (w:Zw) (na:Option Addr) (f:Nat) (d:x.size<=maxLen) :
  Calls prog 208 #[Za #[Zi Zk 2,Zi Zk m,Zt x,Zs na l.length f,Zs c b g]] w fun e a=>e=Zr (Zb ((m==0) && kf x && ((l.length:Int)==0) && ((b:Int)==0)))/\Bw w a:=by
 go_in;go_wp2_with (go_at_call 227;refine (te _ _ d).mono ?_;rintro e a ⟨rfl,rfl⟩);all_goals
  go_ret
  exact⟨b6 (by simp_all),gF _ _⟩
theorem It (m:Int) (x:ByteArray) (l:List ByteArray) (f:Option Addr) (c k:Nat) (w:Zw) (na:Option Addr) (j:Nat) :
  Calls prog 208 #[Za #[Zi Zk 3,Zi Zk m,Zt x,Zs na l.length j,Zs f c k]] w fun e g=>e=Zr (Zb (decide (0<=m/\m<=1) && x.toList.isEmpty && ((l.length:Int)==0) && ((c:Int)==0)))/\Bw w g:=by
 by_cases b:m=0
 ·subst b;go_in;go_wp2_with fail;all_goals
   go_ret
   exact⟨b6 (by simp_all),gF _ _⟩
 by_cases a:m=1
 ·subst a;go_in;go_wp2_with fail;all_goals
   go_ret
   exact⟨b6 (by simp_all),gF _ _⟩
 have d:decide (0<=m/\m<=1)=false:=decide_eq_false om;have i:(m==0)=false:=by simpa using b
 have h:(m==1)=false:=by simpa using a
 rw[d];clear d b a;go_in;go_wp2_with fail;all_goals
  go_ret
  exact⟨b6 (by simp_all),gF _ _⟩
theorem Iq (m:Int) (x:ByteArray) (l:List ByteArray) (b:Option Addr) (a f:Nat) (w:Zw) (na:Option Addr) (d:Nat) :
  Calls prog 208 #[Za #[Zi Zk 4,Zi Zk m,Zt x,Zs na l.length d,Zs b a f]] w fun e c=>e=Zr (Zb ((m==0) && x.toList.isEmpty && ((l.length:Int)==0) && decide ((a:Int)<=20)))/\Bw w c:=by
 go_in;go_wp2_with fail;all_goals
  go_ret
  exact⟨b6 (by simp_all),gF _ _⟩
theorem I0 (m:Int) (x:ByteArray) (l:List ByteArray) (b:Option Addr) (a f:Nat) (w:Zw) (na:Option Addr) (d:Nat) :
  Calls prog 208 #[Za #[Zi Zk 6,Zi Zk m,Zt x,Zs na l.length d,Zs b a f]] w fun e c=>e=Zr (Zb ((m==0) && x.toList.isEmpty && ((l.length:Int)==0) && decide ((a:Int)<=1)))/\Bw w c:=by
 go_in;go_wp2_with fail;all_goals
  go_ret
  exact⟨b6 (by simp_all),gF _ _⟩
theorem IF (m:Int) (x:ByteArray) (l:List ByteArray) (n:Option Addr) (b p:Nat) (w:Zw) (na:Option Addr) (d:Nat) (S:Nat->Prop) (q:fL S w l (Zs na l.length d)) (r:Bd S w) :
  Calls prog 208 #[Za #[Zi Zk 5,Zi Zk m,Zt x,Zs na l.length d,Zs n b p]] w fun e k=>e=Zr (Zb ((m==0) && x.toList.isEmpty && ((l.length:Int)==(b:Int)) && gW l))/\Bw w k:=by
 by_cases j:m=0
 ·subst j;cases hx:x.toList.isEmpty with
  | false=>
   go_in;go_wp2_with fail;all_goals
    go_ret
    exact⟨b6 (by simp_all),gF _ _⟩
  | true=>
   by_cases i:l.length=b
   ·subst i;have a:=(Below.refl w.heap.size w).alloc (Zl _) (Zc #[Zi Zk 5,Zi Zk 0,Zt x,Zs na l.length d,Zs n l.length p] 164);have c:=q.keep (a6 a r) (fun _ h=>h);have o:Hid (Calls prog 192 #[Zs na l.length d] _ _):=mO S l _ _ c;have i:((l.length:Int)==(l.length:Int))=true:=zS;clear q c r;cases h0:((l.length:Int)==0) with
    | true=>go_in;go_wp2_with fail;refine o.out.mono ?_;rintro e k ⟨rfl,rfl⟩;go_wp2;go_ret;exact⟨zS,a⟩
    | false=>go_in;go_wp2_with fail;refine o.out.mono ?_;rintro e k ⟨rfl,rfl⟩;go_wp2;go_ret;exact⟨zS,a⟩
   ·have f:((l.length:Int)==(b:Int))=false:=by simp;omega
    rw[f];clear i;cases h0:((l.length:Int)==0)<;>cases h1:((b:Int)==0)
    all_goals
     go_in
     go_wp2
     go_ret
     exact⟨rfl,gF _ _⟩
 ·have g:(m==0)=false:=by simpa using j
  rw[g];clear j;go_in;go_wp2_with fail;all_goals
   go_ret
   exact⟨b6 (by simp_all),gF _ _⟩
theorem zT (s m:Int) (x:ByteArray) (l:List ByteArray) (a:Option Addr) (f d:Nat) (w:Zw) (na:Option Addr) (c:Nat)
  (i:(s==1)=false) (g:(s==2)=false) (j:(s==3)=false) (k:(s==4)=false) (h:(s==5)=false) (n:(s==6)=false) :
  Calls prog 208 #[Za #[Zi Zk s,Zi Zk m,Zt x,Zs na l.length c,Zs a f d]] w fun e b=>e=Zr (Zb false)/\Bw w b:=by
 go_in;go_wp2_with fail;all_goals
  go_ret
  exact⟨rfl,gF _ _⟩
theorem F8 (s m:Int) (x:ByteArray) (l:List ByteArray) (c:Option Addr) (b d:Nat) (w:Zw) (na:Option Addr) (a:Nat) (o:x.size<=maxLen)
  (S:Nat->Prop) (q:fL S w l (Zs na l.length a)) (p:Bd S w) :
  Calls prog 208 #[Za #[Zi Zk s,Zi Zk m,Zt x,Zs na l.length a,Zs c b d]] w fun e n=>e=Zr (Zb (gS s m x l b))/\Bw w n:=by
 unfold gS;by_cases h:s=1;·subst h;rw[if_pos rfl];exact IL m x l c b d w na a
 rw[if_neg h];by_cases f:s=2;·subst f;rw[if_pos rfl];exact IQ m x l c b d w na a o
 rw[if_neg f];by_cases i:s=3;·subst i;rw[if_pos rfl];exact It m x l c b d w na a
 rw[if_neg i];by_cases j:s=4;·subst j;rw[if_pos rfl];exact Iq m x l c b d w na a
 rw[if_neg j];by_cases g:s=5;·subst g;rw[if_pos rfl];exact IF m x l c b d w na a S q p
 rw[if_neg g];by_cases k:s=6;·subst k;rw[if_pos rfl];exact I0 m x l c b d w na a
 rw[if_neg k];exact zT s m x l c b d w na a (by simp[h]) (by simp[f]) (by simp[i]) (by simp[j]) (by simp[g]) (by simp[k])
def mq(l:List ByteArray)(k:Nat)(a:Int):Int:=a-l.length-b5 (fun s:ByteArray=>s.size) (l.take k)
theorem A4(l:List ByteArray):jc l=l.length+b5 (fun s:ByteArray=>s.size) l:=by
 induction l with
 | nil=>rfl
 | cons x r a=>simp only[jc,b5,Zy,a];omega
theorem oW (S:Nat->Prop) (l:List ByteArray) (v:Zv) (c:Int) (w:Zw) (A:fL S w l v) (D : -1<=c) (z:c<=1048576) :
  Calls prog 27 #[v,Zi Zk c] w fun e C=>e=Zr (Zi Zk (gn (jc l) c))/\C=w:=by
 obtain⟨G,cap,rfl,j,q,n⟩:=A;unfold maxLen at j;by_cases t:c-l.length<0;·go_in;go_wp2;go_ret;exact⟨fO (by rw[gn,A4,if_neg om]),rfl⟩
 go_in;go_wp2;go_loop [1,5] (fun a i=>∃k:Nat,k<=l.length/\i=Zi Zk k/\a=Zi Zk (mq l k c)/\0<=mq l k c) (fun _ i=>l.length-(intOf i).toNat);case atStart=>exact⟨0,ZE _,rfl,by simp[mq,b5],by simp[mq,b5];omega⟩
 case round=>
  obtain⟨k,F,rfl,rfl,r⟩:=hrel;have y:mq l k c<=1048576:=by unfold mq;omega
  by_cases d:k<l.length
  ·obtain⟨b,off,rfl,-,f⟩:=n (by intro h;rw[h]at d;simp at d);have B:=f k d;have o:=q l[k] (Zg d);have p:Hid (mq l (k+1) c=mq l k c-(l[k].size:Int)):=by show _=_;unfold mq;rw[fY _ _ _ d];omega
   have x:Hid (mq l (k+1) c=c-l.length-b5 (fun s:ByteArray=>s.size) (l.take (k+1))/\b5 (fun s:ByteArray=>s.size) (l.take (k+1))<=b5 (fun s:ByteArray=>s.size) l):=by refine⟨rfl,?_⟩;have:=im (fun s:ByteArray=>s.size) (l.take (k+1)) (l.drop (k+1));rw[List.take_append_drop]at this;omega
   unfold maxLen at o;clear n q f;generalize l[k]=s at *;generalize mq l k c=m at *;go_wp2;·go_ret;refine⟨fO ?_,rfl⟩;have z:=p.out;have E:=x.out;rw[gn,A4,if_neg om]
   ·go_round;case rel=>exact⟨k+1,om,by go_num,by rw[p.out],by rw[p.out];omega⟩
    case measure=>simp[intOf];omega
  ·have g:k=l.length:=by omega
   have u:Hid (mq l k c=gn (jc l) c):=by
    show _=_;have e:mq l k c=c-(jc l:Int):=by unfold mq;rw[A4,g,List.take_length];omega
    rw[gn,if_pos om,e]
   clear g n q;go_wp2;go_ret;exact⟨fO u.out,rfl⟩
def gY{α:Type}(f:α->Nat)(l:List α)(k:Nat)(a:Int):Int:=gn (l.length+b5 f (l.take k)) a
theorem kE(f:α->Nat)(l:List α):b5 (fun k=>f k+1) l=l.length+b5 f l:=by
 induction l with
 | nil=>rfl
 | cons x r a=>simp only[b5,Zy,a];omega
theorem pm(f:α->Nat)(l:List α)(k:Nat)(a:Int)(h:k<l.length):gY f l (k+1) a=gn (f l[k]) (gY f l k a):=by unfold gY;rw[kX,fY _ _ _ h];congr 1;omega
structure vT(w:Zw)(N:Nat)(a b c d e:Zv):Prop where
 c0:w.cell? ⟨N,0,Zn⟩=Zo a
 c1:w.cell? ⟨N,1,Zn⟩=Zo b
 c2:w.cell? ⟨N,2,Zn⟩=Zo c
 c3:w.cell? ⟨N,3,Zn⟩=Zo d
 c4:w.cell? ⟨N,4,Zn⟩=Zo e
theorem vT.keep{a b c d e:Zv}(h:vT w N a b c d e)(f:Bw w w'):vT w' N a b c d e:=by
 have g:N<w.heap.size:=by have h:=h.c0;exact Classical.byContradiction fun i=>by have:w.heap[N]?=Zn:=Array.getElem?_eq_none om;simp[World.cell?,this]at h
 exact⟨kC f h.c0 g,kC f h.c1 g,kC f h.c2 g,kC f h.c3 g,kC f h.c4 g⟩
theorem vT.new(w:Zw)(a b c d e:Zv)(t:TypeId):vT (w.alloc (Zc #[a,b,c,d,e] t)) w.heap.size a b c d e:=
 ⟨by simp[go_sem],by simp[go_sem],by simp[go_sem],by simp[go_sem],by simp[go_sem]⟩
theorem gJ.step{t:T n}(h:gJ S w n t c0 c1 c2 c3 c4)(d:Bd S w)(c:Bw w w'):gJ S w' n t c0 c1 c2 c3 c4/\(Bd S w'):=
 ⟨h.keep (a6 c d) (fun _ h=>h),fun b a=>Zd (d b a) c.size⟩
theorem Fp (S:Nat->Prop) (s m:Int) (x:ByteArray) (G:x.size<=maxLen) (l:List ByteArray) (na r:Option Addr) (o k q a u z:Nat) (d p:Int) (w:Zw) (C:fL S w l (Zs na l.length o)) (v:∀ b,S b->b<w.heap.size/\b≠a)
  (f:GQ w a u z p 120 208) (F:0<=p) (L:p<=120) :
  Calls prog 225 #[Za #[Zi Zk s,Zi Zk m,Zt x,Zs na l.length o,Zs r k q],Zi Zk d,Zp (Zo ⟨a,0,Zn⟩),Zp (Zo ⟨u,0,Zn⟩),Zp (Zo ⟨z,0,Zn⟩)] w
   fun e t=>e=Zr (Zb (decide (p+1<=120) && decide (d<=6) && gS s m x l k))/\la t a (p+1)/\b7 a w t:=by
 have K:=f.parts.lt;have j:b7 a w (w.setCell ⟨a,0,Zn⟩ (Zi Zk (p+1))):=b7.set a 0 _ (Zi Zk (p+1));have c:=j.trans (b7.alloc a _ (Zc #[Zi Zk s,Zi Zk m,Zt x,Zs na l.length o,Zs r k q] 164));have g:la ((w.setCell ⟨a,0,Zn⟩ (Zi Zk (p+1))).alloc (Zc #[Zi Zk s,Zi Zk m,Zt x,Zs na l.length o,Zs r k q] 164)) a (p+1):=(f.parts.set (p+1)).keep (gF _ _);have n:=C.keep (c.same v) (fun _ h=>h);have B:Hid (Calls prog 208 _ _ _):=F8 s m x l r k q _ na o G S n (fun b M=>by have:=(v b M).1;simp;omega);have c0:=f.parts.cell;have f0:=f.parts.free;have E:=f.max;have a0:=f.acc;have nm:=f.nm;have H:=f.na;have O:u<w.heap.size:=b8 E;have N:z<w.heap.size:=b8 a0;have D:w.heap.size≠a:=om;clear C n f j v;by_cases J:p+1<=120
 ·by_cases I:d<=6;·go_in;go_wp2_with fail;refine B.out.mono ?_;rintro e t ⟨rfl,i⟩;have y:la t a (p+1):=(i.block a zE).trans g;have A:=c.trans (b7.of_below (bb:=a) i);clear i B;go_wp2;go_ret;exact⟨b6 (by simp[J,I]),y,A⟩
  ·go_in;go_wp2;go_ret;exact⟨b6 (by rw[decide_eq_false (show ¬d<=6 by omega)];simp),g,c⟩
 ·go_in;go_wp2;go_ret;exact⟨b6 (by rw[decide_eq_false (show ¬p+1<=120 by omega)];simp),g,c⟩
theorem uN{p:α->Bool}{l:List α}(k:Nat)(h:k<l.length)(b:(l.take k).all p=true)(a:p l[k]=true):(l.take (k+1)).all p=true:=by rw[ZA h,List.all_append,b];simpa using a
def oE(n:Nat)(t:T n)(d p:Int)(a:Nat)(w:Zw)(e:Ending)(w':Zw):Prop:=
 b7 a w w' /\ ∃r,e=Zr (Zb r)/\(r=true->ia n t d=true/\p+(fJ n t:Int)<=120/\la w' a (p+fJ n t))/\(r=false->¬(ia n t d=true/\p+(fJ n t:Int)<=120))
def Jn(c a b:Nat):Zv:=.func (.func 225) #[] #[Zp (Zo ⟨c,0,Zn⟩),Zp (Zo ⟨a,0,Zn⟩),Zp (Zo ⟨b,0,Zn⟩)]
def qF(n:Nat):Prop:=∀(S:Nat->Prop)(t:T n)(c0 c1 c2 c3 c4:Zv)(d p:Int)(a e c:Nat)(w:Zw),gJ S w n t c0 c1 c2 c3 c4->(∀b,S b->b<w.heap.size/\b≠a)->GQ w a e c p 120 208->0<=p->p<=120->1<=d->d<=7 ->
 Calls prog 224 #[Za #[c0,c1,c2,c3,c4],Zi Zk d,Jn a e c] w (oE n t d p a w)
theorem D8(a b c d e:Zv)(i:∃x l k,e=Zs x l k)(w:Zw):Calls prog 291 #[Za #[a,b,c,d,e]] w fun h g=>h=Zr e/\Bw w g:=by obtain⟨x,l,k,rfl⟩:=i;have f:=(Below.refl w.heap.size w).alloc (Zl _) (Zc #[a,b,c,d,Zs x l k] 164);go_in;go_wp2;go_ret;exact⟨rfl,f⟩
theorem DZ {n:Nat} {t:T (n+1)} {d p:Int} (k:Nat) (a:k<(Nd.kids t).length)
  (h:¬(ia n (Nd.kids t)[k] (d+1)=true/\p+1+(b5 (fun x=>fJ n x) ((Nd.kids t).take k):Int)+(fJ n (Nd.kids t)[k]:Int)<=120)):¬(ia (n+1) t d=true/\p+(fJ (n+1) t:Int)<=120):=by rintro ⟨b,c⟩;apply h;simp only[ia,Zq,ZC]at b;refine⟨b.2 _ (Zg a),?_⟩;have e:=fY (fun x=>fJ n x) (Nd.kids t) k a;have f:=im (fun x=>fJ n x) ((Nd.kids t).take (k+1)) ((Nd.kids t).drop (k+1));rw[List.take_append_drop]at f;simp only[fJ]at c;omega
theorem Ah(n:Nat)(hn:qF n):qF (n+1):=by
 intro S t c0 c1 c2 c3 c4 d p v mb ab w ht M j ak ae ar au;obtain⟨rfl,rfl,rfl,al,-,-,h3,h4⟩:=ht;obtain⟨na,nc,rfl,-,-,-⟩:=id h3;obtain⟨ka,kc,rfl,ad,-⟩:=id h4;unfold maxLen at ad;have u:=j.parts.lt;generalize hs:Nd.sort t=s at *;have N:=(Below.refl w.heap.size w).alloc (Zl _) (Zc #[Zi Zk s,Zi Zk (Nd.num t),Zt (Nd.text t),Zs na (Nd.names t).length nc,Zs ka (Nd.kids t).length kc] 164);have I:b7 v w (w.alloc (Zc #[Zi Zk s,Zi Zk (Nd.num t),Zt (Nd.text t),Zs na (Nd.names t).length nc,Zs ka (Nd.kids t).length kc] 164)):=b7.of_below N;have ac:=h3.keep (I.same M) (fun _ h=>h);have X:Hid (Calls prog 225 _ _ _):=Fp S s (Nd.num t) (Nd.text t) al (Nd.names t) na ka nc (Nd.kids t).length kc v mb ab d p _ ac (fun b J=>by have:=M b J;simp;omega) (j.keep I (j.parts.keep N)) ak ae;unfold Jn;go_in;go_wp2_with fail;refine X.out.mono ?_;rintro e w1 ⟨rfl,O,f⟩;have z:=I.trans f;have R:=j.keep z O;have ap:=z.size;have ao:w.heap.size<w1.heap.size:=by have:=f.size;simp at this;omega
 have k0:w1.cell? ⟨w.heap.size,0,Zn⟩=Zo (Zi Zk s):=f.cell (by simp[go_sem]) om;have k1:w1.cell? ⟨w.heap.size,1,Zn⟩=Zo (Zi Zk (Nd.num t)):=f.cell (by simp[go_sem]) om;have k2:w1.cell? ⟨w.heap.size,2,Zn⟩=Zo (Zt (Nd.text t)):=f.cell (by simp[go_sem]) om;have k3:w1.cell? ⟨w.heap.size,3,Zn⟩=Zo (Zs na (Nd.names t).length nc):=f.cell (by simp[go_sem]) om;have k4:w1.cell? ⟨w.heap.size,4,Zn⟩=Zo (Zs ka (Nd.kids t).length kc):=f.cell (by simp[go_sem]) om;have W:=h4.keepT (z.same M) (fun _ h=>h);clear X I N ac f h3 h4;generalize l:(decide (p+1<=120) && decide (d<=6) && gS s (Nd.num t) (Nd.text t) (Nd.names t) (Nd.kids t).length)=ok;cases ok with
 | false=>
  have HP:Hid (oE (n+1) t d p v w (Zr (Zb false)) w1):=by
   refine⟨z,false,rfl,fun h=>(by cases h),fun _=>?_⟩;rintro ⟨V,hc⟩;simp only[ia,Zq,decide_eq_true_eq]at V;have ha:gS s (Nd.num t) (Nd.text t) (Nd.names t) (Nd.kids t).length=true:=by rw[<- hs];exact V.1.2
   have:p+1<=120:=by simp only[fJ]at hc;omega
   rw[ha,decide_eq_true V.1.1,decide_eq_true this]at l;cases l
  clear l hs;go_wp2;go_ret;exact HP.out
 | true=>
  simp only[Zq,decide_eq_true_eq]at l;have aj:Hid ((decide (d<=6) && ED (show Nd (T n) from t))=true):=by show (_ && gS (Nd.sort t) _ _ _ _)=_;rw[hs,l.2,decide_eq_true l.1.2];rfl
  obtain⟨⟨ah,an⟩,-⟩:=l;clear hs;go_wp2_with fail;refine (D8 _ _ _ _ _ ⟨_,_,_,rfl⟩ _).mono ?_;rintro e w2 ⟨rfl,B⟩;have Z:b7 v w w2:=z.trans (b7.of_below B);have ai:la w2 v (p+1):=O.keep B;have av:=B.size;have h5:=W.keepT ((b7.of_below (bb:=v) B).same (fun b J=>by have:=M b J;omega)) (fun _ h=>h);clear W B R z O k0 k1 k2 k3 k4;obtain⟨_,_,ag,-,o⟩:=h5;cases ag
  go_wp2;go_loopw [18] (fun i wr=>∃ k:Nat,k<=(Nd.kids t).length/\i=Zi Zk k/\b7 v w2 wr/\la wr v (p+1+(b5 (fun x=>fJ n x) ((Nd.kids t).take k):Int)) /\
    p+1+(b5 (fun x=>fJ n x) ((Nd.kids t).take k):Int)<=120/\((Nd.kids t).take k).all (fun x=>ia n x (d+1))=true) (fun i _=>(Nd.kids t).length-(intOf i).toNat)
  case atStart=>exact⟨0,ZE _,rfl,b7.refl _ _,by simpa [b5] using ai,by simpa [b5] using ah,zS⟩
  case round=>
   obtain⟨k,hk,rfl,c,m,a,L⟩:=hrel;have g:=a7 L;clear L;have aq:=c.size;have E:=Z.trans c;have am:=m.lt;by_cases u:k<(Nd.kids t).length
   ·obtain⟨b,off,rfl,af,C⟩:=o (by intro h;rw[h]at u;simp at u);obtain⟨x0,x1,x2,x3,x4,e0,e1,e2,e3,e4,hr⟩:=C k u;have D:=M b af;have f0:=c.cell e0 D.2;have f1:=c.cell e1 D.2;have f2:=c.cell e2 D.2;have f3:=c.cell e3 D.2;have f4:=c.cell e4 D.2;have q:=hr.keep (c.same (fun b J=>by have:=M b J;omega)) (fun _ h=>h);obtain⟨y0,y1,y2,ya,yl,yc,za,zl,zc,rfl,rfl,rfl,rfl,rfl⟩:=q.shape;clear o C e0 e1 e2 e3 e4 hr;have U:=(Below.refl wr.heap.size wr).alloc (Zl _) (Zc #[Zi Zk y0,Zi Zk y1,Zt y2,Zs ya yl yc,Zs za zl zc] 164);have F:b7 v wr (wr.alloc (Zc #[Zi Zk y0,Zi Zk y1,Zt y2,Zs ya yl yc,Zs za zl zc] 164)):=b7.of_below U;have q5:=q.keep (F.same (fun b J=>by have:=M b J;omega)) (fun _ h=>h);have H:=j.keep (E.trans F) (m.keep U);have X:Hid (Calls prog 224 _ _ _):=hn S (Nd.kids t)[k] _ _ _ _ _ (d+1) _ v mb ab _ q5 (fun b J=>by have:=M b J;simp;omega) H om a om om;have G:=@DZ n t d p k u;have y:Hid (b5 (fun x=>fJ n x) ((Nd.kids t).take (k+1))=b5 (fun x=>fJ n x) ((Nd.kids t).take k)+fJ n (Nd.kids t)[k]):=fY _ _ _ u;clear q q5 H U;unfold Jn at X;go_wp2_with fail;refine X.out.mono ?_;rintro e w3 ⟨P,r,rfl,A,Q⟩;have K:=c.trans (F.trans P);cases r with
    | false=>have HP:Hid (oE (n+1) t d p v w (Zr (Zb false)) w3):=⟨Z.trans K,false,rfl,fun h=>(by cases h),fun _=>G (Q rfl)⟩;clear G Q A y g P K F E;go_wp2;go_ret;exact HP.out
    | true=>
     obtain⟨V,hc,Y⟩:=A rfl;have HR:Hid (b7 v w2 w3/\la w3 v (p+1+(b5 (fun x=>fJ n x) ((Nd.kids t).take (k+1)):Int))/\p+1+(b5 (fun x=>fJ n x) ((Nd.kids t).take (k+1)):Int)<=120/\((Nd.kids t).take (k+1)).all (fun x=>ia n x (d+1))=true):=by
      refine⟨K,?_,?_,uN k u g.out V⟩;·rw[y.out,show p+1+((b5 (fun x=>fJ n x) ((Nd.kids t).take k)+fJ n (Nd.kids t)[k]:Nat):Int)=p+1+(b5 (fun x=>fJ n x) ((Nd.kids t).take k):Int)+(fJ n (Nd.kids t)[k]:Int) by omega];exact Y
      ·rw[y.out];omega
     clear G Q A y g P K F E V hc Y m a;go_wp2;go_roundw;case rel=>exact⟨k+1,om,by go_num,HR.out.1,HR.out.2.1,HR.out.2.2.1,HR.out.2.2.2⟩
     case measure=>simp[intOf];omega
   ·have aa:k=(Nd.kids t).length:=by omega
    have HP:Hid (oE (n+1) t d p v w (Zr (Zb true)) wr):=by
     have h1:=g.out;rw[aa,List.take_length]at h1 m a;have e:p+1+(b5 (fun x=>fJ n x) (Nd.kids t):Int)=p+(fJ (n+1) t:Int):=by simp only[fJ];omega
     rw[e]at m a;exact⟨E,true,rfl,fun _=>⟨by have:=aj.out;simp only[ia,this,h1,Bool.and_self],a,m⟩,fun h=>(by cases h)⟩
    clear aa o g E m a;go_wp2;go_ret;exact HP.out
theorem DA:∀n,qF n:=by
 intro n;induction n with
 | zero=>intro S t c0 c1 c2 c3 c4 d p f e c w a;exact a.elim
 | succ n b=>exact Ah n b
theorem Dh (n:Nat) (S:Nat->Prop) (t:T n) (c0 c1 c2 c3 c4:Zv) (w:Zw) (g:gJ S w n t c0 c1 c2 c3 c4) (p:Bd S w) :
  Calls prog 207 #[Za #[c0,c1,c2,c3,c4],Zi Zk 120,.func (.func 208) #[] #[]] w fun e C=>e=Zr (Zb (Be n t))/\Bw w C:=by
 have B:∀(u:Fn)(first cap:Array Zv)(w:Zw),(Instr.makeFunc u first cap).run prog w=.ok (.func u first cap) w:=fun _ _ _ _=>rfl;obtain⟨q,k,m,y,l,z,s,o,v,rfl,rfl,rfl,rfl,rfl⟩:=g.shape;have f:Bw w ((((w.alloc (Zc #[Zi Zk q,Zi Zk k,Zt m,Zs y l z,Zs s o v] 164)).alloc (Zc #[Zi Zk 120] 3)).alloc (Zc #[.func (.func 208) #[] #[]] 209)).alloc (Zc #[Zi Zk 0] 3)):=
  (((gF _ _).alloc zS _).alloc zE _).alloc zE _
 have d:=g.keep (a6 f p) (fun _ h=>h);have i:Hid (Calls prog 224 _ _ _):=DA n S t _ _ _ _ _ 1 0 (w.heap.size+1+1+1) (w.heap.size+1) (w.heap.size+1+1) _ d (fun b f=>by have:=p b f;simp;omega)
  ⟨by rw[show w.heap.size+1+1+1=(((w.alloc (Zc #[Zi Zk q,Zi Zk k,Zt m,Zs y l z,Zs s o v] 164)).alloc (Zc #[Zi Zk 120] 3)).alloc (Zc #[.func (.func 208) #[] #[]] 209)).heap.size by simp];exact la.new _ 0,
   by simp[go_sem],by simp[go_sem],om,om⟩ om om om om
 unfold Jn at i;clear g d;go_in;go_wp2_with fail;refine i.out.mono ?_;rintro e w1 ⟨x,r,rfl,a,c⟩;have j:Bw w w1:=f.trans (x.below om zE);have E:r=Be n t:=by
  cases r with
  | true=>obtain⟨A,D,-⟩:=a rfl;unfold Be;rw[A,decide_eq_true om];rfl
  | false=>symm;rw[Bool.eq_false_iff];intro h;simp only[Be,Zq,decide_eq_true_eq]at h;exact c rfl ⟨h.1,om⟩
 clear a c x f i;go_wp2;go_ret;exact⟨rfl,j⟩
theorem si (n:Nat) (S:Nat->Prop) (t:T n) (c0 c1 c2 c3 c4:Zv) (w:Zw) (f:gJ S w n t c0 c1 c2 c3 c4) (q:Bd S w) :
  Calls prog 180 #[Za #[c0,c1,c2,c3,c4]] w fun e p=>e=Zr (Zb (Be n t))/\Bw w p:=by obtain⟨s,j,l,r,k,u,i,o,m,rfl,rfl,rfl,rfl,rfl⟩:=f.shape;have a:=(Below.refl w.heap.size w).alloc (Zl _) (Zc #[Zi Zk s,Zi Zk j,Zt l,Zs r k u,Zs i o m] 164);obtain⟨c,g⟩:=f.step q a;have h:Hid (Calls prog 207 _ _ _):=Dh n S t _ _ _ _ _ _ c g;clear f c;go_in;go_wp2_with fail;refine h.out.mono ?_;rintro e w1 ⟨rfl,b⟩;have d:=b4 a zS b;clear a b h;go_wp2;go_ret;exact⟨rfl,d⟩
def gU{α:Type}(S:Nat->Prop)(w:Zw)(R:α->Zv->Zv->Zv->Prop)(l:List α)(v:Zv):Prop:=
 ∃(a:Option Addr)(cap:Nat),v=Zs a l.length cap/\l.length<=maxLen /\
  (l≠[]->∃b off,a=Zo ⟨b,off,Zn⟩/\S b/\∀i (h:i<l.length),∃c0 c1 c2,w.cell? ⟨b,off+i*3,Zn⟩=Zo c0/\w.cell? ⟨b,off+i*3+1,Zn⟩=Zo c1 /\
   w.cell? ⟨b,off+i*3+2,Zn⟩=Zo c2/\R l[i] c0 c1 c2)
def a8(S:Nat->Prop)(w:Zw):(n:Nat)->K n->Zv->Zv->Zv->Prop
 | 0,_,_,_,_=>False
 | n+1,t,c0,c1,c2=>c0=Zi Zk (Kd.sort t)/\(Lit.int Zk (Kd.sort t)).wf=true/\fL S w (Kd.names t) c1/\gU S w (a8 S w n) (Kd.kids t) c2
theorem gU.keep {R f:α->Zv->Zv->Zv->Prop} {l:List α} (h:gU S w R l v) (e:jy S w w') (o:∀ b,S b->S' b)
  (u:∀x c0 c1 c2,x∈l->R x c0 c1 c2->f x c0 c1 c2):gU S' w' f l v:=by
 obtain⟨s,cap,m,r,n⟩:=h;refine⟨s,cap,m,r,fun d=>?_⟩;obtain⟨b,off,q,c,a⟩:=n d;refine⟨b,off,q,o b c,fun i hi=>?_⟩;obtain⟨c0,c1,c2,t,j,g,k⟩:=a i hi;exact⟨c0,c1,c2,(e.cell (p:=⟨b,off+i*3,Zn⟩) c).trans t,(e.cell (p:=⟨b,off+i*3+1,Zn⟩) c).trans j,(e.cell (p:=⟨b,off+i*3+2,Zn⟩) c).trans g,
  u _ _ _ _ (Zg hi) k⟩
theorem a8.keep(d:jy S w w')(c:∀b,S b->S' b):∀ {n:Nat} {t:K n} {c0 c1 c2:Zv},a8 S w n t c0 c1 c2->a8 S' w' n t c0 c1 c2:=by
 intro n;induction n with
 | zero=>intro t c0 c1 c2 h;exact h.elim
 | succ n j=>intro t c0 c1 c2 h;obtain⟨i,a,e,f⟩:=h;exact⟨i,a,e.keep d c,f.keep d c fun x _ _ _ _ g=>j g⟩
theorem gU.keepK{l:List (K n)}(h:gU S w (a8 S w n) l v)(a:jy S w w')(c:∀b,S b->S' b):gU S' w' (a8 S' w' n) l v:=
 h.keep a c fun _ _ _ _ _ d=>d.keep a c
theorem a8.shape:∀ {n:Nat} {t:K n} {c0 c1 c2:Zv},a8 S w n t c0 c1 c2 ->
  ∃(s:Int)(a:Option Addr)(l c:Nat)(m:Option Addr)(f d:Nat),c0=Zi Zk s/\c1=Zs a l c/\c2=Zs m f d:=by
 intro n;cases n with
 | zero=>intro t c0 c1 c2 h;exact h.elim
 | succ n=>intro t c0 c1 c2 h;obtain⟨k,j,⟨o,cap,g,-⟩,⟨e,b,i,-⟩⟩:=h;exact⟨_,_,_,_,_,_,_,k,g,i⟩
def ij(w:Zw)(b o:Nat)(g0 g1 g2:Zv):Zw:=
 ((w.setCell ⟨b,o,Zn⟩ g0).setCell ⟨b,o+1,Zn⟩ g1).setCell ⟨b,o+2,Zn⟩ g2
def nB(o:Nat)(F:Nat->Zv)(g0 g1 g2:Zv)(j:Nat):Zv:=
 if j=o+2 then g2 else if j=o+1 then g1 else if j=o then g0 else F j
theorem FT(h:w.rowIs b t N F)(o:Nat)(g0 g1 g2:Zv):(ij w b o g0 g1 g2).rowIs b t N (nB o F g0 g1 g2):=
 ((h.set o g0).set (o+1) g1).set (o+2) g2
theorem Gt(o:Nat)(F:Nat->Zv)(g0 g1 g2:Zv):nB o F g0 g1 g2 o=g0:=by simp[nB]
theorem Hx(o:Nat)(F:Nat->Zv)(g0 g1 g2:Zv):nB o F g0 g1 g2 (o+1)=g1:=by simp[nB]
theorem G2(o:Nat)(F:Nat->Zv)(g0 g1 g2:Zv):nB o F g0 g1 g2 (o+2)=g2:=by simp[nB]
theorem nX(o:Nat)(F:Nat->Zv)(g0 g1 g2:Zv)(j:Nat)(a:j<o∨o+3<=j):nB o F g0 g1 g2 j=F j:=by unfold nB;rw[if_neg om,if_neg om,if_neg om]
theorem gR(h:k≠b):(ij w b o g0 g1 g2).heap[k]?=w.heap[k]?:=by unfold ij;rw[ZD _ _ _ _ h,ZD _ _ _ _ h,ZD _ _ _ _ h]
theorem iq:(ij w b o g0 g1 g2).heap.size=w.heap.size:=by simp[ij]
theorem iP(h:Below B a w)(c:B<=b):Below B a (ij w b o g0 g1 g2):=
 ((h.setCell c g0).setCell c g1).setCell c g2
structure jX(w:Zw)(N:Nat)(a b c:Zv):Prop where
 c0:w.cell? ⟨N,0,Zn⟩=Zo a
 c1:w.cell? ⟨N,1,Zn⟩=Zo b
 c2:w.cell? ⟨N,2,Zn⟩=Zo c
theorem jX.keep{a b c:Zv}(h:jX w N a b c)(d:Bw w w'):jX w' N a b c:=by
 have e:N<w.heap.size:=by have h:=h.c0;exact Classical.byContradiction fun f=>by have:w.heap[N]?=Zn:=Array.getElem?_eq_none om;simp[World.cell?,this]at h
 exact⟨(d.cell (p:=⟨N,0,Zn⟩) e).trans h.c0,(d.cell (p:=⟨N,1,Zn⟩) e).trans h.c1,(d.cell (p:=⟨N,2,Zn⟩) e).trans h.c2⟩
theorem jX.new(w:Zw)(a b c:Zv)(t:TypeId):jX (w.alloc (Zc #[a,b,c] t)) w.heap.size a b c:=
 ⟨by simp[go_sem],by simp[go_sem],by simp[go_sem]⟩
theorem a8.step{t:K n}(h:a8 S w n t c0 c1 c2)(d:Bd S w)(c:Bw w w'):a8 S w' n t c0 c1 c2/\(Bd S w'):=
 ⟨h.keep (a6 c d) (fun _ h=>h),fun b a=>Zd (d b a) c.size⟩
theorem pt (s:Int) (l:List ByteArray) (b:Option Addr) (a g:Nat) (w:Zw) (na:Option Addr) (d:Nat) (f:s=1∨s=2∨s=3) :
  Calls prog 150 #[Za #[Zi Zk s,Zs na l.length d,Zs b a g]] w fun e c=>e=Zr (Zb (((l.length:Int)==0) && ((a:Int)==0)))/\Bw w c:=by
 rcases f with rfl|rfl|rfl;all_goals
  go_in
  go_wp2_with fail
  all_goals
   go_ret
   exact⟨b6 (by simp_all),gF _ _⟩
theorem uP (s:Int) (l:List ByteArray) (b:Option Addr) (a g:Nat) (w:Zw) (na:Option Addr) (d:Nat) (f:s=4∨s=6) :
  Calls prog 150 #[Za #[Zi Zk s,Zs na l.length d,Zs b a g]] w fun e c=>e=Zr (Zb (((l.length:Int)==0) && ((a:Int)==1)))/\Bw w c:=by
 rcases f with rfl|rfl;all_goals
  go_in
  go_wp2_with fail
  all_goals
   go_ret
   exact⟨b6 (by simp_all),gF _ _⟩
theorem Av (l:List ByteArray) (i:Option Addr) (d k:Nat) (w:Zw) (na:Option Addr) (c:Nat) (S:Nat->Prop) (n:fL S w l (Zs na l.length c)) (m:Bd S w) :
  Calls prog 150 #[Za #[Zi Zk 5,Zs na l.length c,Zs i d k]] w fun e j=>e=Zr (Zb (((l.length:Int)==(d:Int)) && gW l))/\Bw w j:=by
 by_cases g:l.length=d;·subst g;have b:=(Below.refl w.heap.size w).alloc (Zl _) (Zc #[Zi Zk 5,Zs na l.length c,Zs i l.length k] 31);have a:=n.keep (a6 b m) (fun _ h=>h);have o:Hid (Calls prog 192 #[Zs na l.length c] _ _):=mO S l _ _ a;have g:((l.length:Int)==(l.length:Int))=true:=zS;clear n a m;go_in;go_wp2_with fail;refine o.out.mono ?_;rintro e j ⟨rfl,rfl⟩;go_wp2;go_ret;exact⟨zS,b⟩
 ·have f:((l.length:Int)==(d:Int))=false:=by simp;omega
  rw[f];clear g;go_in;go_wp2;go_ret;exact⟨rfl,gF _ _⟩
theorem yB (s:Int) (l:List ByteArray) (b:Option Addr) (f d:Nat) (w:Zw) (na:Option Addr) (c:Nat)
  (j:(s==1)=false) (h:(s==2)=false) (k:(s==3)=false) (m:(s==4)=false) (i:(s==5)=false) (n:(s==6)=false) :
  Calls prog 150 #[Za #[Zi Zk s,Zs na l.length c,Zs b f d]] w fun e g=>e=Zr (Zb false)/\Bw w g:=by have a:=(Below.refl w.heap.size w).alloc (Zl _) (Zc #[Zi Zk s,Zs na l.length c,Zs b f d] 31);go_in;go_wp2;go_ret;exact⟨rfl,a⟩
theorem D6 (s:Int) (l:List ByteArray) (c:Option Addr) (b d:Nat) (w:Zw) (na:Option Addr) (a:Nat)
  (S:Nat->Prop) (o:fL S w l (Zs na l.length a)) (n:Bd S w) :
  Calls prog 150 #[Za #[Zi Zk s,Zs na l.length a,Zs c b d]] w fun e m=>e=Zr (Zb (fW s l b))/\Bw w m:=by
 unfold fW;by_cases h:s=1;·subst h;rw[if_pos rfl];exact pt 1 l c b d w na a (.inl rfl)
 rw[if_neg h];by_cases f:s=2;·subst f;rw[if_pos rfl];exact pt 2 l c b d w na a (.inr (.inl rfl))
 rw[if_neg f];by_cases i:s=3;·subst i;rw[if_pos rfl];exact pt 3 l c b d w na a (.inr (.inr rfl))
 rw[if_neg i];by_cases j:s=4;·subst j;rw[if_pos rfl];exact uP 4 l c b d w na a (.inl rfl)
 rw[if_neg j];by_cases g:s=5;·subst g;rw[if_pos rfl];exact Av l c b d w na a S o n
 rw[if_neg g];by_cases k:s=6;·subst k;rw[if_pos rfl];exact uP 6 l c b d w na a (.inr rfl)
 rw[if_neg k];exact yB s l c b d w na a (by simp[h]) (by simp[f]) (by simp[i]) (by simp[j]) (by simp[g]) (by simp[k])
theorem Gd (S:Nat->Prop) (s:Int) (l:List ByteArray) (na q:Option Addr) (n k o a t x:Nat) (d p:Int) (w:Zw) (A:fL S w l (Zs na l.length n)) (u:∀ b,S b->b<w.heap.size/\b≠a)
  (f:GQ w a t x p 40 150) (D:0<=p) (I:p<=40) :
  Calls prog 191 #[Za #[Zi Zk s,Zs na l.length n,Zs q k o],Zi Zk d,Zp (Zo ⟨a,0,Zn⟩),Zp (Zo ⟨t,0,Zn⟩),Zp (Zo ⟨x,0,Zn⟩)] w
   fun e r=>e=Zr (Zb (decide (p+1<=40) && decide (d<=6) && fW s l k))/\la r a (p+1)/\b7 a w r:=by
 have H:=f.parts.lt;have j:b7 a w (w.setCell ⟨a,0,Zn⟩ (Zi Zk (p+1))):=b7.set a 0 _ (Zi Zk (p+1));have c:=j.trans (b7.alloc a _ (Zc #[Zi Zk s,Zs na l.length n,Zs q k o] 31));have g:la ((w.setCell ⟨a,0,Zn⟩ (Zi Zk (p+1))).alloc (Zc #[Zi Zk s,Zs na l.length n,Zs q k o] 31)) a (p+1):=(f.parts.set (p+1)).keep (gF _ _);have m:=A.keep (c.same u) (fun _ h=>h);have z:Hid (Calls prog 150 _ _ _):=D6 s l q k o _ na n S m (fun b J=>by have:=(u b J).1;simp;omega);have c0:=f.parts.cell;have f0:=f.parts.free;have C:=f.max;have a0:=f.acc;have nm:=f.nm;have E:=f.na;have L:t<w.heap.size:=b8 C;have K:x<w.heap.size:=b8 a0;have B:w.heap.size≠a:=om;clear A m f j u;by_cases G:p+1<=40
 ·by_cases F:d<=6;·go_in;go_wp2_with fail;refine z.out.mono ?_;rintro e r ⟨rfl,i⟩;have v:la r a (p+1):=(i.block a zE).trans g;have y:=c.trans (b7.of_below (bb:=a) i);clear i z;go_wp2;go_ret;exact⟨b6 (by simp[G,F]),v,y⟩
  ·go_in;go_wp2;go_ret;exact⟨b6 (by rw[decide_eq_false (show ¬d<=6 by omega)];simp),g,c⟩
 ·go_in;go_wp2;go_ret;exact⟨b6 (by rw[decide_eq_false (show ¬p+1<=40 by omega)];simp),g,c⟩
def kd(n:Nat)(t:K n)(d p:Int)(a:Nat)(w:Zw)(e:Ending)(w':Zw):Prop:=
 b7 a w w' /\ ∃r,e=Zr (Zb r)/\(r=true->fK n t d=true/\p+(fP n t:Int)<=40/\la w' a (p+fP n t))/\(r=false->¬(fK n t d=true/\p+(fP n t:Int)<=40))
def Jo(c a b:Nat):Zv:=.func (.func 191) #[] #[Zp (Zo ⟨c,0,Zn⟩),Zp (Zo ⟨a,0,Zn⟩),Zp (Zo ⟨b,0,Zn⟩)]
def qH(n:Nat):Prop:=∀(S:Nat->Prop)(t:K n)(c0 c1 c2:Zv)(d p:Int)(a e c:Nat)(w:Zw),a8 S w n t c0 c1 c2->(∀b,S b->b<w.heap.size/\b≠a)->GQ w a e c p 40 150->0<=p->p<=40->1<=d->d<=7 ->
 Calls prog 190 #[Za #[c0,c1,c2],Zi Zk d,Jo a e c] w (kd n t d p a w)
theorem Dc(a b c:Zv)(g:∃x l k,c=Zs x l k)(w:Zw):Calls prog 285 #[Za #[a,b,c]] w fun e f=>e=Zr c/\Bw w f:=by obtain⟨x,l,k,rfl⟩:=g;have d:=(Below.refl w.heap.size w).alloc (Zl _) (Zc #[a,b,Zs x l k] 31);go_in;go_wp2;go_ret;exact⟨rfl,d⟩
theorem uT {n:Nat} {t:K (n+1)} {d p:Int} (k:Nat) (a:k<(Kd.kids t).length)
  (h:¬(fK n (Kd.kids t)[k] (d+1)=true/\p+1+(b5 (fun x=>fP n x) ((Kd.kids t).take k):Int)+(fP n (Kd.kids t)[k]:Int)<=40)):¬(fK (n+1) t d=true/\p+(fP (n+1) t:Int)<=40):=by rintro ⟨b,c⟩;apply h;simp only[fK,Zq,ZC]at b;refine⟨b.2 _ (Zg a),?_⟩;have e:=fY (fun x=>fP n x) (Kd.kids t) k a;have f:=im (fun x=>fP n x) ((Kd.kids t).take (k+1)) ((Kd.kids t).drop (k+1));rw[List.take_append_drop]at f;simp only[fP]at c;omega
theorem Bi(n:Nat)(hn:qH n):qH (n+1):=by
 intro S t c0 c1 c2 d p u mb ab w ht L f ah ae al am;obtain⟨rfl,-,h3,h4⟩:=ht;obtain⟨na,nc,rfl,-,-,-⟩:=id h3;obtain⟨ka,kc,rfl,ac,-⟩:=id h4;unfold maxLen at ac;have m:=f.parts.lt;generalize hs:Kd.sort t=s at *;have P:=(Below.refl w.heap.size w).alloc (Zl _) (Zc #[Zi Zk s,Zs na (Kd.names t).length nc,Zs ka (Kd.kids t).length kc] 31);have H:b7 u w (w.alloc (Zc #[Zi Zk s,Zs na (Kd.names t).length nc,Zs ka (Kd.kids t).length kc] 31)):=b7.of_below P;have aa:=h3.keep (H.same L) (fun _ h=>h);have HC:Hid (Calls prog 191 _ _ _):=Gd S s (Kd.names t) na ka nc (Kd.kids t).length kc u mb ab d p _ aa (fun b J=>by have:=L b J;simp;omega) (f.keep H (f.parts.keep P)) ah ae;unfold Jo;go_in;go_wp2_with fail;refine HC.out.mono ?_;rintro e w1 ⟨rfl,Q,z⟩;have y:=H.trans z;have R:=f.keep y Q;have aq:=y.size;have ap:w.heap.size<w1.heap.size:=by have:=z.size;simp at this;omega
 have k0:w1.cell? ⟨w.heap.size,0,Zn⟩=Zo (Zi Zk s):=z.cell (by simp[go_sem]) om;have k1:w1.cell? ⟨w.heap.size,1,Zn⟩=Zo (Zs na (Kd.names t).length nc):=z.cell (by simp[go_sem]) om;have k2:w1.cell? ⟨w.heap.size,2,Zn⟩=Zo (Zs ka (Kd.kids t).length kc):=z.cell (by simp[go_sem]) om;have Z:=h4.keepK (y.same L) (fun _ h=>h);clear HC H P aa z h3 h4;generalize j:(decide (p+1<=40) && decide (d<=6) && fW s (Kd.names t) (Kd.kids t).length)=ok;cases ok with
 | false=>
  have HP:Hid (kd (n+1) t d p u w (Zr (Zb false)) w1):=by
   refine⟨y,false,rfl,fun h=>(by cases h),fun _=>?_⟩;rintro ⟨V,hc⟩;simp only[fK,Zq,decide_eq_true_eq]at V;have ha:fW s (Kd.names t) (Kd.kids t).length=true:=by rw[<- hs];exact V.1.2
   have:p+1<=40:=by simp only[fP]at hc;omega
   rw[ha,decide_eq_true V.1.1,decide_eq_true this]at j;cases j
  clear j hs;go_wp2;go_ret;exact HP.out
 | true=>
  simp only[Zq,decide_eq_true_eq]at j;have ag:Hid ((decide (d<=6) && lq (show Kd (K n) from t))=true):=by show (_ && fW (Kd.sort t) _ _)=_;rw[hs,j.2,decide_eq_true j.1.2];rfl
  obtain⟨⟨aj,an⟩,-⟩:=j;clear hs;go_wp2_with fail;refine (Dc _ _ _ ⟨_,_,_,rfl⟩ _).mono ?_;rintro e w2 ⟨rfl,D⟩;have X:b7 u w w2:=y.trans (b7.of_below D);have ad:la w2 u (p+1):=Q.keep D;have ao:=D.size;have h5:=Z.keepK ((b7.of_below (bb:=u) D).same (fun b J=>by have:=L b J;omega)) (fun _ h=>h);clear Z D R y Q k0 k1 k2;obtain⟨_,_,ai,-,l⟩:=h5;cases ai
  go_wp2;go_loopw [18] (fun i wr=>∃ k:Nat,k<=(Kd.kids t).length/\i=Zi Zk k/\b7 u w2 wr/\la wr u (p+1+(b5 (fun x=>fP n x) ((Kd.kids t).take k):Int)) /\
    p+1+(b5 (fun x=>fP n x) ((Kd.kids t).take k):Int)<=40/\((Kd.kids t).take k).all (fun x=>fK n x (d+1))=true) (fun i _=>(Kd.kids t).length-(intOf i).toNat)
  case atStart=>exact⟨0,ZE _,rfl,b7.refl _ _,by simpa [b5] using ad,by simpa [b5] using aj,zS⟩
  case round=>
   obtain⟨k,hk,rfl,o,g,a,M⟩:=hrel;have c:=a7 M;clear M;have ar:=o.size;have A:=X.trans o;have ak:=g.lt;by_cases m:k<(Kd.kids t).length
   ·obtain⟨b,off,rfl,af,F⟩:=l (by intro h;rw[h]at m;simp at m);obtain⟨x0,x1,x2,e0,e1,e2,hr⟩:=F k m;have O:=L b af;have f0:=o.cell e0 O.2;have f1:=o.cell e1 O.2;have f2:=o.cell e2 O.2;have q:=hr.keep (o.same (fun b J=>by have:=L b J;omega)) (fun _ h=>h);obtain⟨y0,ya,yl,yc,za,zl,zc,rfl,rfl,rfl⟩:=q.shape;clear l F e0 e1 e2 hr;have T:=(Below.refl wr.heap.size wr).alloc (Zl _) (Zc #[Zi Zk y0,Zs ya yl yc,Zs za zl zc] 31);have C:b7 u wr (wr.alloc (Zc #[Zi Zk y0,Zs ya yl yc,Zs za zl zc] 31)):=b7.of_below T;have q5:=q.keep (C.same (fun b J=>by have:=L b J;omega)) (fun _ h=>h);have G:=f.keep (A.trans C) (g.keep T);have HC:Hid (Calls prog 190 _ _ _):=hn S (Kd.kids t)[k] _ _ _ (d+1) _ u mb ab _ q5 (fun b J=>by have:=L b J;simp;omega) G om a om om;have E:=@uT n t d p k m;have v:Hid (b5 (fun x=>fP n x) ((Kd.kids t).take (k+1))=b5 (fun x=>fP n x) ((Kd.kids t).take k)+fP n (Kd.kids t)[k]):=fY _ _ _ m;clear q q5 G T;unfold Jo at HC;go_wp2_with fail;refine HC.out.mono ?_;rintro e w3 ⟨U,r,rfl,B,N⟩;have I:=o.trans (C.trans U);cases r with
    | false=>have HP:Hid (kd (n+1) t d p u w (Zr (Zb false)) w3):=⟨X.trans I,false,rfl,fun h=>(by cases h),fun _=>E (N rfl)⟩;clear E N B v c U I C A;go_wp2;go_ret;exact HP.out
    | true=>
     obtain⟨V,hc,W⟩:=B rfl;have HR:Hid (b7 u w2 w3/\la w3 u (p+1+(b5 (fun x=>fP n x) ((Kd.kids t).take (k+1)):Int))/\p+1+(b5 (fun x=>fP n x) ((Kd.kids t).take (k+1)):Int)<=40/\((Kd.kids t).take (k+1)).all (fun x=>fK n x (d+1))=true):=by
      refine⟨I,?_,?_,jV k m c.out V⟩;·rw[v.out,show p+1+((b5 (fun x=>fP n x) ((Kd.kids t).take k)+fP n (Kd.kids t)[k]:Nat):Int)=p+1+(b5 (fun x=>fP n x) ((Kd.kids t).take k):Int)+(fP n (Kd.kids t)[k]:Int) by omega];exact W
      ·rw[v.out];omega
     clear E N B v c U I C A V hc W g a;go_wp2;go_roundw;case rel=>exact⟨k+1,om,by go_num,HR.out.1,HR.out.2.1,HR.out.2.2.1,HR.out.2.2.2⟩
     case measure=>simp[intOf];omega
   ·have Y:k=(Kd.kids t).length:=by omega
    have HP:Hid (kd (n+1) t d p u w (Zr (Zb true)) wr):=by
     have h1:=c.out;rw[Y,List.take_length]at h1 g a;have e:p+1+(b5 (fun x=>fP n x) (Kd.kids t):Int)=p+(fP (n+1) t:Int):=by simp only[fP];omega
     rw[e]at g a;exact⟨A,true,rfl,fun _=>⟨by have:=ag.out;simp only[fK,this,h1,Bool.and_self],a,g⟩,fun h=>(by cases h)⟩
    clear Y l c A g a;go_wp2;go_ret;exact HP.out
theorem Ct:∀n,qH n:=by
 intro n;induction n with
 | zero=>intro S t c0 c1 c2 d p f e c w a;exact a.elim
 | succ n b=>exact Bi n b
theorem Eh (n:Nat) (S:Nat->Prop) (t:K n) (c0 c1 c2:Zv) (w:Zw) (g:a8 S w n t c0 c1 c2) (m:Bd S w) :
  Calls prog 149 #[Za #[c0,c1,c2],Zi Zk 40,.func (.func 150) #[] #[]] w fun e A=>e=Zr (Zb (gV n t))/\Bw w A:=by
 have z:∀(q:Fn)(first cap:Array Zv)(w:Zw),(Instr.makeFunc q first cap).run prog w=.ok (.func q first cap) w:=fun _ _ _ _=>rfl;obtain⟨o,u,k,x,p,l,s,rfl,rfl,rfl⟩:=g.shape;have f:Bw w ((((w.alloc (Zc #[Zi Zk o,Zs u k x,Zs p l s] 31)).alloc (Zc #[Zi Zk 40] 3)).alloc (Zc #[.func (.func 150) #[] #[]] 71)).alloc (Zc #[Zi Zk 0] 3)):=
  (((gF _ _).alloc zS _).alloc zE _).alloc zE _
 have d:=g.keep (a6 f m) (fun _ h=>h);have i:Hid (Calls prog 190 _ _ _):=Ct n S t _ _ _ 1 0 (w.heap.size+1+1+1) (w.heap.size+1) (w.heap.size+1+1) _ d (fun b f=>by have:=m b f;simp;omega)
  ⟨by rw[show w.heap.size+1+1+1=(((w.alloc (Zc #[Zi Zk o,Zs u k x,Zs p l s] 31)).alloc (Zc #[Zi Zk 40] 3)).alloc (Zc #[.func (.func 150) #[] #[]] 71)).heap.size by simp];exact la.new _ 0,
   by simp[go_sem],by simp[go_sem],om,om⟩ om om om om
 unfold Jo at i;clear g d;go_in;go_wp2_with fail;refine i.out.mono ?_;rintro e w1 ⟨v,r,rfl,a,c⟩;have j:Bw w w1:=f.trans (v.below om zE);have C:r=gV n t:=by
  cases r with
  | true=>obtain⟨y,B,-⟩:=a rfl;unfold gV;rw[y,decide_eq_true om];rfl
  | false=>symm;rw[Bool.eq_false_iff];intro h;simp only[gV,Zq,decide_eq_true_eq]at h;exact c rfl ⟨h.1,om⟩
 clear a c v f i;go_wp2;go_ret;exact⟨rfl,j⟩
theorem xG (n:Nat) (S:Nat->Prop) (t:K n) (c0 c1 c2:Zv) (w:Zw) (f:a8 S w n t c0 c1 c2) (o:Bd S w) :
  Calls prog 113 #[Za #[c0,c1,c2]] w fun e m=>e=Zr (Zb (gV n t))/\Bw w m:=by obtain⟨q,p,j,r,i,l,k,rfl,rfl,rfl⟩:=f.shape;have a:=(Below.refl w.heap.size w).alloc (Zl _) (Zc #[Zi Zk q,Zs p j r,Zs i l k] 31);obtain⟨c,g⟩:=f.step o a;have h:Hid (Calls prog 149 _ _ _):=Eh n S t _ _ _ _ c g;clear f c;go_in;go_wp2_with fail;refine h.out.mono ?_;rintro e w1 ⟨rfl,b⟩;have d:=b4 a zS b;clear a b h;go_wp2;go_ret;exact⟨rfl,d⟩
theorem nW{k:K (n+1)}(h:fK (n+1) k d=true)(b:¬Kd.sort k=5):Kd.names k=[]:=by
 simp only[fK,Zq]at h;have a:fW (Kd.sort k) (Kd.names k) (Kd.kids k).length=true:=h.1.2;unfold fW at a;rw[if_neg b]at a;have e:((Kd.names k).length:Int)=0:=by
  split at a;·simp at a;simp[a.1]
  split at a;·simp at a;simp[a.1]
  split at a;·simp at a;simp[a.1]
  split at a;·simp at a;simp[a.1]
  split at a;·simp at a;simp[a.1]
  ·cases a
 exact Zz om
theorem Ca{k:K (n+1)}(h:fK (n+1) k d=true)(b:Kd.sort k=5):(Kd.names k).length=(Kd.kids k).length/\gW (Kd.names k)=true:=by simp only[fK,Zq]at h;have a:fW (Kd.sort k) (Kd.names k) (Kd.kids k).length=true:=h.1.2;unfold fW at a;rw[b]at a;simp at a;exact⟨om,a.2⟩
theorem Ap(h:gW l=true):∀s,s∈l->s.size<=8:=by intro s b;obtain⟨i,hi,rfl⟩:=List.getElem_of_mem b;unfold gW iQ at h;have:=ZC.1 h i (List.mem_range.2 hi);simp only[iU,Zq,gh,decide_eq_true_eq]at this;have a:=this.1.1.1.2;simpa [List.getD,hi] using a
theorem IY:∀x:List UInt8,Op.bytesLess x x=false:=by
 intro x;induction x with
 | nil=>rfl
 | cons a r b=>simp[Op.bytesLess,b]
theorem FV:∀x y z:List UInt8,Op.bytesLess x y=true->Op.bytesLess y z=true->Op.bytesLess x z=true:=by
 intro x;induction x with
 | nil=>
  intro y z e d;cases y with
  | nil=>simp[Op.bytesLess]at e
  | cons b y=>cases z with
   | nil=>simp[Op.bytesLess]at d
   | cons c z=>rfl
 | cons a x f=>
  intro y z e d;cases y with
  | nil=>simp[Op.bytesLess]at e
  | cons b y=>
   cases z with
   | nil=>simp[Op.bytesLess]at d
   | cons c z=>
    simp only[Op.bytesLess,Bool.or_eq_true,Zq,decide_eq_true_eq,beq_iff_eq]at e d ⊢;rcases e with e|⟨rfl,e⟩
    ·rcases d with d|⟨rfl,d⟩;·exact .inl (UInt8.lt_trans e d)
     ·exact .inl e
    ·rcases d with d|⟨rfl,d⟩;·exact .inl d
     ·exact .inr ⟨rfl,f y z e d⟩
theorem tB(a:ByteArray):kJ a a=false:=IY _
theorem FY{a b c:ByteArray}(e:kJ a b=true)(d:kJ b c=true):kJ a c=true:=FV _ _ _ e d
theorem vt{a b:ByteArray}(h:kJ a b=true):a≠b:=fun e=>by rw[e,tB]at h;cases h
def uk(l:List ByteArray):Prop:=l.Pairwise (fun a b=>kJ a b=true)
theorem IX(l:List ByteArray)(h:gW l=true):uk l:=by
 unfold gW iQ at h;have a:∀i (b:i+1<l.length),kJ l[i] l[i+1]=true:=by
  intro i b;have:=ZC.1 h (i+1) (List.mem_range.2 b);simp only[iU,Zq,Bool.or_eq_true]at this;rcases this.2 with c|c;·simp at c
  ·simpa [List.getD,b,show i<l.length by omega] using c
 have e:∀d i (b:i+d+1<l.length),kJ l[i] l[i+d+1]=true:=by
  intro d;induction d with
  | zero=>intro i b;exact a i b
  | succ d g=>intro i b;exact FY (g i om) (a (i+d+1) b)
 unfold uk;rw[List.pairwise_iff_getElem];intro i j hi k f;obtain⟨d,rfl⟩:∃d,j=i+d+1:=⟨j-i-1,om⟩;exact e d i k
theorem wQ(h:uk l)(i j:Nat)(hi:i<l.length)(b:j<l.length)(e:l[i]=l[j]):i=j:=by
 unfold uk at h;rw[List.pairwise_iff_getElem]at h;rcases Nat.lt_trichotomy i j with a|a|a;·exact absurd e (vt (h i j hi b a))
 ·exact a
 ·exact absurd e.symm (vt (h j i b hi a))
theorem Tryz.yes_num(x:Zv)(w:Zw):(Instr.typeAssert (.iface 299 x) 278 299 true).run prog w=.ok (Zu #[x,Zb true]) w:=by kernel_rfl
theorem Tryz.no_num_text(x:Zv)(w:Zw):(Instr.typeAssert (.iface 301 x) 278 299 true).run prog w=.ok (Zu #[Zi Zk 0,Zb false]) w:=by kernel_rfl
theorem Tryz.yes_text(x:Zv)(w:Zw):(Instr.typeAssert (.iface 301 x) 278 301 true).run prog w=.ok (Zu #[x,Zb true]) w:=by kernel_rfl
theorem Tryz.no_num_flag(x:Zv)(w:Zw):(Instr.typeAssert (.iface 302 x) 278 299 true).run prog w=.ok (Zu #[Zi Zk 0,Zb false]) w:=by kernel_rfl
theorem Tryz.no_text_flag(x:Zv)(w:Zw):(Instr.typeAssert (.iface 302 x) 278 301 true).run prog w=.ok (Zu #[Zt Ze,Zb false]) w:=by kernel_rfl
theorem Tryz.yes_flag(x:Zv)(w:Zw):(Instr.typeAssert (.iface 302 x) 278 302 true).run prog w=.ok (Zu #[x,Zb true]) w:=by kernel_rfl
theorem Tryz.no_num_list(x:Zv)(w:Zw):(Instr.typeAssert (.iface 305 x) 278 299 true).run prog w=.ok (Zu #[Zi Zk 0,Zb false]) w:=by kernel_rfl
theorem Tryz.no_text_list(x:Zv)(w:Zw):(Instr.typeAssert (.iface 305 x) 278 301 true).run prog w=.ok (Zu #[Zt Ze,Zb false]) w:=by kernel_rfl
theorem Tryz.no_flag_list(x:Zv)(w:Zw):(Instr.typeAssert (.iface 305 x) 278 302 true).run prog w=.ok (Zu #[Zb false,Zb false]) w:=by kernel_rfl
theorem Tryz.yes_list(x:Zv)(w:Zw):(Instr.typeAssert (.iface 305 x) 278 305 true).run prog w=.ok (Zu #[x,Zb true]) w:=by kernel_rfl
theorem Tryz.no_num_form(x:Zv)(w:Zw):(Instr.typeAssert (.iface 308 x) 278 299 true).run prog w=.ok (Zu #[Zi Zk 0,Zb false]) w:=by kernel_rfl
theorem Tryz.no_text_form(x:Zv)(w:Zw):(Instr.typeAssert (.iface 308 x) 278 301 true).run prog w=.ok (Zu #[Zt Ze,Zb false]) w:=by kernel_rfl
theorem Tryz.no_flag_form(x:Zv)(w:Zw):(Instr.typeAssert (.iface 308 x) 278 302 true).run prog w=.ok (Zu #[Zb false,Zb false]) w:=by kernel_rfl
theorem Tryz.no_list_form(x:Zv)(w:Zw):(Instr.typeAssert (.iface 308 x) 278 305 true).run prog w=.ok (Zu #[Zs Zn 0 0,Zb false]) w:=by kernel_rfl
theorem Tryz.yes_form(x:Zv)(w:Zw):(Instr.typeAssert (.iface 308 x) 278 308 true).run prog w=.ok (Zu #[x,Zb true]) w:=by kernel_rfl
theorem Tryz.no_num_maybe(x:Zv)(w:Zw):(Instr.typeAssert (.iface 310 x) 278 299 true).run prog w=.ok (Zu #[Zi Zk 0,Zb false]) w:=by kernel_rfl
theorem Tryz.no_text_maybe(x:Zv)(w:Zw):(Instr.typeAssert (.iface 310 x) 278 301 true).run prog w=.ok (Zu #[Zt Ze,Zb false]) w:=by kernel_rfl
theorem Tryz.no_flag_maybe(x:Zv)(w:Zw):(Instr.typeAssert (.iface 310 x) 278 302 true).run prog w=.ok (Zu #[Zb false,Zb false]) w:=by kernel_rfl
theorem Tryz.no_list_maybe(x:Zv)(w:Zw):(Instr.typeAssert (.iface 310 x) 278 305 true).run prog w=.ok (Zu #[Zs Zn 0 0,Zb false]) w:=by kernel_rfl
theorem Tryz.no_form_maybe(x:Zv)(w:Zw):(Instr.typeAssert (.iface 310 x) 278 308 true).run prog w=.ok (Zu #[Za #[Zs Zn 0 0,Zs Zn 0 0],Zb false]) w:=by kernel_rfl
theorem Tryz.yes_maybe(x:Zv)(w:Zw):(Instr.typeAssert (.iface 310 x) 278 310 true).run prog w=.ok (Zu #[x,Zb true]) w:=by kernel_rfl
def rQ(n:Nat):Prop:=∀(S:Nat->Prop)(t:K n)(c0 c1 c2:Zv)(a:Int)(w:Zw),a8 S w n t c0 c1 c2->(Bd S w) -> -1<=a->a<=1048576 ->
 Calls prog 19 #[Za #[c0,c1,c2],Zi Zk a] w fun e b=>e=Zr (Zi Zk (gn (lO n t) a))/\Bw w b
theorem yI (n:Nat) (V:rQ n) (S:Nat->Prop) (l:List (K n)) (v:Zv) (c:Int) (w:Zw) (T:gU S w (a8 S w n) l v) (t:Bd S w) (X : -1<=c) (Q:c<=1048576) :
  Calls prog 54 #[v,Zi Zk c] w fun e U=>e=Zr (Zi Zk (gn (b5 (fun k=>lO n k+1) l) c))/\Bw w U:=by
 obtain⟨Z,cap,rfl,x,A⟩:=T;unfold maxLen at x;by_cases J:c-l.length<0;·go_in;go_wp2;go_ret;exact⟨fO (by rw[gn,kE,if_neg om]),Below.refl _ _⟩
 go_in;go_wp2;go_loopw [1,5] (fun a i wr=>∃k:Nat,k<=l.length/\i=Zi Zk k/\a=Zi Zk (gY (lO n) l k c)/\0<=gY (lO n) l k c/\Bw w wr) (fun _ i _=>l.length-(intOf i).toNat);case atStart=>
  have e:gY (lO n) l 0 c=c-l.length:=by simp[gY,gn,b5];omega
  exact⟨0,ZE _,rfl,by rw[e],by rw[e];omega,Below.refl _ _⟩
 case round=>
  obtain⟨k,Y,rfl,rfl,E,d⟩:=hrel;have o:=(jB (l.length+b5 (lO n) (l.take k)) c Q).2;change gY (lO n) l k c<=1048576 at o;by_cases j:k<l.length
  ·obtain⟨b,off,rfl,p,g⟩:=A (by intro h;rw[h]at j;simp at j);obtain⟨R,N,M,G,L,I,H⟩:=g k j;have f0:=kC d G (t b p);have f1:=kC d L (t b p);have f2:=kC d I (t b p);clear A g G L I;have u:=H.keep (a6 d t) (fun _ h=>h);have r:=d.size;have D:Hid (gY (lO n) l (k+1) c=gn (lO n l[k]) (gY (lO n) l k c)):=pm _ _ _ _ j;have F:Hid (gY (lO n) l (k+1) c = -1->gn (b5 (fun k=>lO n k+1) l) c = -1):=by intro q;have:=im (lO n) (l.take (k+1)) (l.drop (k+1));rw[List.take_append_drop]at this;rw[kE];unfold gY gn at q;unfold gn;rw[if_neg];intro P;rw[if_pos om]at q;omega
   clear H;go_wp2_with fail;refine (V S l[k] R N M _ wr u (fun b W=>Zd (t b W) r) om o).mono ?_;rintro e w1 ⟨rfl,y⟩;rw[<- D.out];have B:=jB (lO n l[k]) (gY (lO n) l k c) o;rw[<- D.out]at B;have f:=d.trans (y.mono r);clear D y f0 f1 f2 u d;generalize q:gY (lO n) l (k+1) c=m at *;have O:=q;have C:Hid (m = -1->gn (b5 (fun k=>lO n k+1) l) c = -1):=F;have z:Hid (gY (lO n) l (k+1) c=m):=q;clear F q O;go_wp2;·go_ret;refine⟨fO ?_,f⟩;rw[C.out om]
   ·go_roundw;case rel=>exact⟨k+1,om,by go_num,by rw[z.out],by rw[z.out];omega,f⟩
    case measure=>simp[intOf];omega
  ·have s:k=l.length:=by omega
   have z:Hid (gY (lO n) l k c=gn (b5 (fun k=>lO n k+1) l) c):=by show _=_;unfold gY;rw[kE,s,List.take_length]
   clear s A;go_wp2;go_ret;exact⟨fO z.out,d⟩
theorem yt(n:Nat)(C:rQ n):rQ (n+1):=by
 intro S t c0 c1 c2 a w A p E F;obtain⟨rfl,-,x,u⟩:=A;have o:Hid (lO (n+1) t=jc (Kd.names t)+b5 (fun k=>lO n k+1) (Kd.kids t)):=rfl;have c:Bw w (w.alloc (Zc #[Zi Zk (Kd.sort t),c1,c2] 52)):=gF _ _;have i:=x.keep (a6 c p) (fun _ h=>h);have g:=u.keepK (a6 c p) (fun _ h=>h);have z:=jB (jc (Kd.names t)) a om;clear x u;go_in;go_wp2_with fail;refine (oW S _ _ _ _ i om om).mono ?_;rintro e w1 ⟨rfl,rfl⟩;generalize v:gn (jc (Kd.names t)) a=m at *;have l:Hid (gn (jc (Kd.names t)) a=m):=v;clear v;by_cases B:m<0;·go_wp2;go_ret;refine⟨fO ?_,c⟩;rw[o.out,<- kX,l.out,gn,if_neg om]
 ·go_wp2_with fail;refine (yI n C S _ _ _ _ g (fun b D=>by have:=p b D;simp;omega) om om).mono ?_;rintro e w1 ⟨rfl,j⟩;have d:=b4 c zS j;have f:=jB (b5 (fun k=>lO n k+1) (Kd.kids t)) m om;have r:Hid (gn (b5 (fun k=>lO n k+1) (Kd.kids t)) m=gn (lO (n+1) t) a):=by show _=_;rw[o.out,<- kX,l.out]
  clear c j i g l o;rw[r.out];rw[r.out]at f;generalize y:gn (lO (n+1) t) a=q at *;have s:Hid (gn (lO (n+1) t) a=q):=y;clear y r;go_wp2;·go_ret;exact⟨fO (by rw[s.out];omega),d⟩
  ·go_ret;exact⟨fO s.out.symm,d⟩
theorem AR:∀n,rQ n:=by
 intro n;induction n with
 | zero=>intro S t c0 c1 c2 a w b;exact b.elim
 | succ n c=>exact yt n c
theorem Tryz.info_str:(prog.info? 9).map (fun i=>(i.zero,i.size,i.bytes))=Zo (Zo (Zt Ze),1,16):=by kernel_rfl
theorem Tryz.info_kind:(prog.info? 31).map (fun i=>(i.zero,i.size,i.bytes))=Zo (Zo (Za #[Zi Zk 0,Zs Zn 0 0,Zs Zn 0 0]),3,56):=by kernel_rfl
theorem Bl (n:Nat) (d:n<=1048576) (w:Zw):(Instr.makeSlice 29 (Zi Zk (n:Int)) (Zi Zk (n:Int))).run prog w =
  .ok (Zs (Zo ⟨w.heap.size,0,Zn⟩) n n) (w.alloc (Zc (madeCells #[Zi Zk 0,Zs Zn 0 0,Zs Zn 0 0] (n*3)) 31)):=by obtain⟨i0,hi,c,a,b⟩:=info_parts Tryz.info_kind;have:=run_make (P:=prog) w 29 31 i0 _ underlying29 hi c Zk Zk (n:Int) (n:Int) om om (by rw[b];omega) om;rw[a]at this;simpa [Value.cells] using this
def jf(M:Nat)(w:Zw):Prop:=∀b o,M<=b->b<w.heap.size->w.frozen? ⟨b,o,Zn⟩=false
theorem jf.base(w:Zw):jf w.heap.size w:=fun b o c a=>by omega
theorem jf.set(h:jf M w)(p:Addr)(v:Zv):jf M (w.setCell p v):=fun b o c a=>by
 rw[World.frozen?_setCell];exact h b o c (by simpa using a)
theorem jf.alloc(h:jf M w)(c:Array Zv)(t:TypeId):jf M (w.alloc (Zc c t)):=fun b o g f=>by
 by_cases d:b<w.heap.size
 ·have e:=Below.heap_alloc w (Zc c t) b d
  have:=h b o g d
  simp only[World.frozen?,e]at this ⊢
  exact this
 ·have a:b=w.heap.size:=by simp at f;omega
  subst a
  have e:=heap_alloc_new w (Zc c t)
  simp only[World.frozen?,e];simp
theorem jf.step(h:jf M w)(e:Bw w w')(f:jf w.heap.size w')(_hM:M<=w.heap.size):jf M w':=fun b o d c=>by
 by_cases a:b<w.heap.size
 ·rw[e.frozen (p:=⟨b,o,Zn⟩) a];exact h b o d a
 ·exact f b o om c
theorem oU (S:Nat->Prop) (l:List ByteArray) (v:Zv) (w:Zw) (F:fL S w l v) (C:Bd S w) (z:jc l<=1048576) :
  Calls prog 35 #[v] w fun e q=>∃t,e=Zr t/\fL (fun b=>w.heap.size<=b/\b<q.heap.size) q l t/\Bw w q/\jf w.heap.size q/\mz t:=by
 obtain⟨I,cap,rfl,m,y,r⟩:=F;have D:=ph l;have g:=run_make_row' (P:=prog) 23 9 (Zt Ze) 16 underlying23 Tryz.info_str rfl Zk Zk l.length om om;go_in;go_wp2;go_loopw [4] (fun i wr=>∃k:Nat,k<=l.length/\i=Zi Zk k/\wr.rowIs w.heap.size 9 l.length (fun j=>if j<k then Zt (l.getD j Ze) else Zt Ze)/\Bw w wr/\wr.heap.size=w.heap.size+1)
  (fun i _=>l.length-(intOf i).toNat)
 case atStart=>exact⟨0,ZE _,rfl,(World.rowIs_made _ _ _ _).congr (fun i _=>zS),gF _ _,zS⟩
 case round=>
  obtain⟨k,H,rfl,a,c,n⟩:=hrel;by_cases d:k<l.length
  ·obtain⟨b,off,rfl,x,f⟩:=r (by intro h;rw[h]at d;simp at d);have f0:=kC c (f k d) (C b x);have f1:=a.cell d;have f2:=a.frozen k;have G:Hid ((wr.setCell ⟨w.heap.size,k,Zn⟩ (Zt l[k])).rowIs w.heap.size 9 l.length (fun j=>if j<k+1 then Zt (l.getD j Ze) else Zt Ze)):=by
    refine (a.set k (Zt l[k])).congr fun i hi=>?_;by_cases p:i=k;·subst p;simp[d]
    ·by_cases u:i<k;·rw[if_neg p,if_pos u,if_pos om]
     ·rw[if_neg p,if_neg u,if_neg om]
   have B:Hid (Bw w (wr.setCell ⟨w.heap.size,k,Zn⟩ (Zt l[k]))):=c.setCell (Zl _) _;clear r f a c g;go_wp2;go_roundw;case rel=>exact⟨k+1,om,by go_num,G.out,B.out,by simpa using n⟩
   case measure=>simp[intOf];omega
  ·have s:k=l.length:=by omega
   have E:Hid (fL (fun b=>w.heap.size<=b/\b<wr.heap.size) wr l (Zs (Zo ⟨w.heap.size,0,Zn⟩) l.length l.length)):=by refine⟨_,_,rfl,m,y,fun _=>⟨w.heap.size,0,rfl,⟨Zl _,a.lt⟩,fun i hi=>?_⟩⟩;have:=a.cell hi;rw[if_pos om]at this;simpa [List.getD,hi] using this
   have A:Hid (jf w.heap.size wr):=fun b o p u=>by have:b=w.heap.size:=om;subst this;exact a.frozen o
   clear s r y a g;go_wp2;go_ret;exact⟨_,rfl,E.out,c,A.out,_,_,_,rfl,Zl _⟩
def pI(n:Nat):Prop:=∀(S:Nat->Prop)(t:K n)(c0 c1 c2:Zv)(w:Zw),a8 S w n t c0 c1 c2->(Bd S w)->lO n t<=1048576 ->
 Calls prog 22 #[Za #[c0,c1,c2]] w fun e a=>∃f c d,e=Zr (Za #[f,c,d])/\a8 (fun b=>w.heap.size<=b/\b<a.heap.size) a n t f c d/\Bw w a/\jf w.heap.size a
theorem yJ (n:Nat) (hn:pI n) (S:Nat->Prop) (l:List (K n)) (v:Zv) (w:Zw) (hl:gU S w (a8 S w n) l v) (H:Bd S w) (ab:b5 (fun k=>lO n k+1) l<=1048576) :
  Calls prog 62 #[v] w fun e G=>∃W,e=Zr W/\gU (fun b=>w.heap.size<=b/\b<G.heap.size) G (a8 (fun b=>w.heap.size<=b/\b<G.heap.size) G n) l W/\Bw w G/\jf w.heap.size G:=by
 obtain⟨ao,cap,rfl,M,R⟩:=hl;have aa:=mw (lO n) l;have J:=Bl l.length om;go_in;go_wp2;go_loopw [4] (fun i wr=>∃ (k:Nat) (F:Nat->Zv),k<=l.length/\i=Zi Zk k/\wr.rowIs w.heap.size 31 (l.length*3) F/\(Bw w wr/\jf w.heap.size wr) /\
   ∀j (h:j<l.length),j<k->a8 (fun b=>w.heap.size<b/\b<wr.heap.size) wr n l[j] (F (j*3)) (F (j*3+1)) (F (j*3+2)))
  (fun i _=>l.length-(intOf i).toNat)
 case atStart=>
  obtain⟨F,Y⟩:=lZ w #[Zi Zk 0,Zs Zn 0 0,Zs Zn 0 0] (l.length*3) 31;exact⟨0,F,ZE _,rfl,Y,⟨gF _ _,fun b o h1 h2=>by
   have:b=w.heap.size:=by simp at h2;omega
   subst this;exact Y.frozen o⟩,fun j _ h=>absurd h (Nat.not_lt_zero _)⟩
 case round=>
  obtain⟨k,F,hk,rfl,c,⟨d,D⟩,f⟩:=hrel;by_cases q:k<l.length
  ·obtain⟨b,off,rfl,C,p⟩:=R (by intro h;rw[h]at q;simp at q);obtain⟨d0,d1,d2,V,e1,Z,X⟩:=p k q;have f0:=kC d V (H b C);have f1:=kC d e1 (H b C);have f2:=kC d Z (H b C);clear R p V e1 Z;have I:=X.keep (a6 d H) (fun _ h=>h);have m:=d.size;have N:=gX (fun k=>lO n k+1) l l[k] (Zg q);clear X J;go_wp2_with fail;refine (hn S l[k] d0 d1 d2 wr I (fun b A=>Zd (H b A) m) om).mono ?_;rintro e w1 ⟨g0,g1,g2,rfl,E,g,O⟩;have s:=D.step g O m;have ac:=g.size;have L:=c.lt;have a:w1.rowIs w.heap.size 31 (l.length*3) F:=c.of_block (g.block _ L);have q0:=a.cell (i:=k*3) om;have q1:=a.cell (i:=k*3+1) om;have q2:=a.cell (i:=k*3+2) om;have r0:=a.frozen (k*3);have r1:=a.frozen (k*3+1);have r2:=a.frozen (k*3+2);obtain⟨r,u,x,B,t,y,z,rfl,rfl,rfl⟩:=E.shape;have HR:Hid (∀ j (h:j<l.length),j<k+1->a8 (fun b=>w.heap.size<b/\b<(ij w1 w.heap.size (k*3) (Zi Zk r) (Zs u x B) (Zs t y z)).heap.size)
     (ij w1 w.heap.size (k*3) (Zi Zk r) (Zs u x B) (Zs t y z)) n l[j]
     (nB (k*3) F (Zi Zk r) (Zs u x B) (Zs t y z) (j*3)) (nB (k*3) F (Zi Zk r) (Zs u x B) (Zs t y z) (j*3+1))
     (nB (k*3) F (Zi Zk r) (Zs u x B) (Zs t y z) (j*3+2))):=by
    intro j hj ad
    by_cases P:j<k
    ·rw[nX _ _ _ _ _ (j*3) om,nX _ _ _ _ _ (j*3+1) om,nX _ _ _ _ _ (j*3+2) om]
     refine (f j hj P).keep (fun b A=>?_) (fun b A=>?_)
     ·rw[gR om];exact g.block b A.2
     ·rw[iq];omega
    ·have:j=k:=by omega
     subst this
     rw[Gt,Hx,G2]
     refine E.keep (fun b A=>?_) (fun b A=>?_)
     ·rw[gR om]
     ·rw[iq];omega
   have U:=FT a (k*3) (Zi Zk r) (Zs u x B) (Zs t y z);have HB:=iP (o:=k*3) (g0:=Zi Zk r) (g1:=Zs u x B) (g2:=Zs t y z) (b4 d m g) (Zl _);have Q:Hid (_/\_/\_/\_):=⟨U,HB,HR.out,((s.set ⟨w.heap.size,k*3,Zn⟩ (Zi Zk r)).set ⟨w.heap.size,k*3+1,Zn⟩ (Zs u x B)).set ⟨w.heap.size,k*3+2,Zn⟩ (Zs t y z)⟩;clear D s O;clear U HB HR f c d g E hn a f0 f1 f2 I N;go_wp2;go_roundw;case rel=>exact⟨k+1,_,om,by go_num,Q.out.1,⟨Q.out.2.1,Q.out.2.2.2⟩,Q.out.2.2.1⟩
   case measure=>simp[intOf];omega
  ·have T:k=l.length:=by omega
   have HF:Hid (gU (fun b=>w.heap.size<=b/\b<wr.heap.size) wr (a8 (fun b=>w.heap.size<=b/\b<wr.heap.size) wr n) l (Zs (Zo ⟨w.heap.size,0,Zn⟩) l.length l.length)):=by
    refine⟨_,_,rfl,M,fun _=>⟨w.heap.size,0,rfl,⟨Zl _,c.lt⟩,fun i hi=>?_⟩⟩;refine⟨_,_,_,?_,?_,?_,(f i hi om).keep (fun _ _=>rfl) (fun b A=>⟨om,A.2⟩)⟩;·simpa using c.cell (i:=i*3) om
    ·simpa using c.cell (i:=i*3+1) om
    ·simpa using c.cell (i:=i*3+2) om
   clear T R c J f;go_wp2;go_ret;exact⟨_,rfl,HF.out,d,D⟩
theorem vP(n:Nat)(Z:pI n):pI (n+1):=by
 intro S t c0 c1 c2 w X C M;obtain⟨rfl,I,R,U⟩:=X;have T:lO (n+1) t=jc (Kd.names t)+b5 (fun k=>lO n k+1) (Kd.kids t):=rfl;rw[T]at M;clear T;have p:Bw w (((w.alloc (Zc #[Zi Zk (Kd.sort t),c1,c2] 52)).alloc
   (Zc #[Zi Zk 0,Zs Zn 0 0,Zs Zn 0 0] 31)).alloc (Zc #[Zi Zk (Kd.sort t),Zs Zn 0 0,Zs Zn 0 0] 31)):=
  ((gF _ _).alloc zS _).alloc zE _
 have J:=R.keep (a6 p C) (fun _ h=>h);have Q:Hid (gU S _ (a8 S _ n) (Kd.kids t) c2):=U.keepK (a6 p C) (fun _ h=>h);obtain⟨ka,kc,P,-⟩:=U;subst P;clear R;go_in;go_wp2_with fail;refine (oU S _ _ _ J (fun b f=>by have:=C b f;simp;omega) om).mono ?_;rintro e w1 ⟨v3,rfl,B,l,K,-⟩;have u:jf w.heap.size w1:=jf.step (((jf.base w).alloc _ _).alloc _ _ |>.alloc _ _) l K zE;have N:=l.size;simp at N;obtain⟨A,y⟩:=ro l;obtain⟨na,m,rfl,-⟩:=id B;have H:Hid (fL _ w1 (Kd.names t) (Zs na (Kd.names t).length m)):=B;have x:=b4 p zE l;have E:Hid (gU S w1 (a8 S w1 n) (Kd.kids t) _):=Q.out.keepK (a6 l (fun b f=>by have:=C b f;simp;omega)) (fun _ h=>h);clear B Q J p;have af:w1.frozen? ⟨w.heap.size+1+1,1,Zn⟩=false:=by rw[y _ _ zS];simp[go_sem]
 have o:jy S w1 (w1.setCell ⟨w.heap.size+1+1,1,Zn⟩ (Zs na (Kd.names t).length m)):=fun b f=>ZD _ _ _ _ (by have:=C b f;show b≠w.heap.size+1+1;omega);have L:Hid (gU S _ (a8 S _ n) (Kd.kids t) _):=E.out.keepK o (fun _ h=>h);have r:Bw w (w1.setCell ⟨w.heap.size+1+1,1,Zn⟩ (Zs na (Kd.names t).length m)):=x.setCell (by show w.heap.size<=w.heap.size+1+1;omega) _;clear E o x;go_wp2_with fail;refine (yJ n Z S _ _ _ L.out (fun b f=>by have:=C b f;simp;omega) om).mono ?_;rintro e a ⟨v4,rfl,z,i,F⟩;have s:jf w.heap.size a:=jf.step (u.set ⟨w.heap.size+1+1,1,Zn⟩ (Zs na (Kd.names t).length m)) i F zE;have O:=i.size;simp at O;obtain⟨d,c⟩:=ro i;obtain⟨g,j,rfl,-⟩:=id z;have G:Hid (gU _ a (a8 _ a n) (Kd.kids t) (Zs g (Kd.kids t).length j)):=z;have q:=b4 r zE i;have D:Hid (Below _ _ a):=i;have m0:a.cell? ⟨w.heap.size+1+1,0,Zn⟩=Zo (Zi Zk (Kd.sort t)):=by rw[d _ _ zE];simp[go_sem,A]
 have ac:a.frozen? ⟨w.heap.size+1+1,0,Zn⟩=false:=by rw[c _ _ zE];simp[go_sem,y]
 have m1:a.cell? ⟨w.heap.size+1+1,1,Zn⟩=Zo (Zs na (Kd.names t).length m):=by rw[d _ _ zE];simp[go_sem,A]
 have ae:a.frozen? ⟨w.heap.size+1+1,1,Zn⟩=false:=by rw[c _ _ zE];simp[go_sem,y]
 have m2:a.cell? ⟨w.heap.size+1+1,2,Zn⟩=Zo (Zs Zn 0 0):=by rw[d _ _ zE];simp[go_sem,A]
 have ab:a.frozen? ⟨w.heap.size+1+1,2,Zn⟩=false:=by rw[c _ _ zE];simp[go_sem,y]
 have r0:a.cell? ⟨w.heap.size+1,0,Zn⟩=Zo (Zi Zk 0):=by rw[d _ _ zE];simp[go_sem,A]
 have Y:a.frozen? ⟨w.heap.size+1,0,Zn⟩=false:=by rw[c _ _ zE];simp[go_sem,y]
 have W:a.cell? ⟨w.heap.size+1,1,Zn⟩=Zo (Zs Zn 0 0):=by rw[d _ _ zE];simp[go_sem,A]
 have ad:a.frozen? ⟨w.heap.size+1,1,Zn⟩=false:=by rw[c _ _ zE];simp[go_sem,y]
 have r2:a.cell? ⟨w.heap.size+1,2,Zn⟩=Zo (Zs Zn 0 0):=by rw[d _ _ zE];simp[go_sem,A]
 have aa:a.frozen? ⟨w.heap.size+1,2,Zn⟩=false:=by rw[c _ _ zE];simp[go_sem,y]
 clear z L r l i A y d c;have HF:Hid (a8 (fun b=>w.heap.size<=b/\b<(ij (a.setCell ⟨w.heap.size+1+1,2,Zn⟩ (Zs g (Kd.kids t).length j)) (w.heap.size+1) 0 (Zi Zk (Kd.sort t)) (Zs na (Kd.names t).length m) (Zs g (Kd.kids t).length j)).heap.size)
   (ij (a.setCell ⟨w.heap.size+1+1,2,Zn⟩ (Zs g (Kd.kids t).length j)) (w.heap.size+1) 0 (Zi Zk (Kd.sort t)) (Zs na (Kd.names t).length m) (Zs g (Kd.kids t).length j))
   (n+1) t (Zi Zk (Kd.sort t)) (Zs na (Kd.names t).length m) (Zs g (Kd.kids t).length j)):=by
  refine⟨rfl,I,H.out.keep (fun b f=>?_) (fun b f=>?_),G.out.keepK (fun b f=>?_) (fun b f=>?_)⟩
  ·simp at f
   rw[gR om,ZD _ _ _ _ (by show b≠w.heap.size+1+1;omega),D.out.block b zE,ZD _ _ _ _ (by show b≠w.heap.size+1+1;omega)]
  ·simp at f;rw[iq];simp;omega
  ·simp at f
   rw[gR om,ZD _ _ _ _ (by show b≠w.heap.size+1+1;omega)]
  ·simp at f;rw[iq];simp;omega
 have V:Hid (Bw w (ij (a.setCell ⟨w.heap.size+1+1,2,Zn⟩ (Zs g (Kd.kids t).length j)) (w.heap.size+1) 0 (Zi Zk (Kd.sort t)) (Zs na (Kd.names t).length m) (Zs g (Kd.kids t).length j))):=
  iP (q.setCell (by show w.heap.size<=w.heap.size+1+1;omega) _) om
 have HT:Hid (jf w.heap.size (ij (a.setCell ⟨w.heap.size+1+1,2,Zn⟩ (Zs g (Kd.kids t).length j)) (w.heap.size+1) 0 (Zi Zk (Kd.sort t)) (Zs na (Kd.names t).length m) (Zs g (Kd.kids t).length j))):=
  (((s.set ⟨w.heap.size+1+1,2,Zn⟩ (Zs g (Kd.kids t).length j)).set ⟨w.heap.size+1,0,Zn⟩ (Zi Zk (Kd.sort t))).set ⟨w.heap.size+1,0+1,Zn⟩ (Zs na (Kd.names t).length m)).set ⟨w.heap.size+1,0+2,Zn⟩ (Zs g (Kd.kids t).length j)
 clear H G D q I u s K F;go_wp2_with fail;refine bodyPost_ret (v:=Za #[Zi Zk (Kd.sort t),Zs na (Kd.names t).length m,Zs g (Kd.kids t).length j]) (by simp[results,results22,go_sem,r0,W,r2]) rfl ?_;exact⟨_,_,_,rfl,HF.out,V.out,HT.out⟩
theorem yV:∀n,pI n:=by
 intro n;induction n with
 | zero=>intro S t c0 c1 c2 w a;exact a.elim
 | succ n b=>exact vP n b
def rO(n:Nat):Prop:=∀(S:Nat->Prop)(t:T n)(c0 c1 c2 c3 c4:Zv)(a:Int)(w:Zw),gJ S w n t c0 c1 c2 c3 c4->(Bd S w) -> -1<=a->a<=1048576 ->
 Calls prog 6 #[Za #[c0,c1,c2,c3,c4],Zi Zk a] w fun e b=>e=Zr (Zi Zk (gn (kr n t) a))/\Bw w b
theorem yd (n:Nat) (Z:rO n) (S:Nat->Prop) (l:List (T n)) (v:Zv) (c:Int) (w:Zw) (W:ig S w (gJ S w n) l v) (p:Bd S w) (h0 : -1<=c) (U:c<=1048576) :
  Calls prog 28 #[v,Zi Zk c] w fun e X=>e=Zr (Zi Zk (gn (b5 (fun k=>kr n k+1) l) c))/\Bw w X:=by
 obtain⟨ao,cap,rfl,x,A⟩:=W;unfold maxLen at x;by_cases K:c-l.length<0;·go_in;go_wp2;go_ret;exact⟨fO (by rw[gn,kE,if_neg om]),Below.refl _ _⟩
 go_in;go_wp2;go_loopw [1,5] (fun a i wr=>∃k:Nat,k<=l.length/\i=Zi Zk k/\a=Zi Zk (gY (kr n) l k c)/\0<=gY (kr n) l k c/\Bw w wr) (fun _ i _=>l.length-(intOf i).toNat);case atStart=>
  have e:gY (kr n) l 0 c=c-l.length:=by simp[gY,gn,b5];omega
  exact⟨0,ZE _,rfl,by rw[e],by rw[e];omega,Below.refl _ _⟩
 case round=>
  obtain⟨k,hk,rfl,rfl,F,d⟩:=hrel;have q:=(jB (l.length+b5 (kr n) (l.take k)) c U).2;change gY (kr n) l k c<=1048576 at q;by_cases o:k<l.length
  ·obtain⟨b,off,rfl,g,j⟩:=A (by intro h;rw[h]at o;simp at o);obtain⟨V,P,N,Y,O,H,L,J,M,E,I⟩:=j k o;have f0:=kC d H (p b g);have f1:=kC d L (p b g);have f2:=kC d J (p b g);have f3:=kC d M (p b g);have f4:=kC d E (p b g);clear A j H L J M E;have u:=I.keep (a6 d p) (fun _ h=>h);have s:=d.size;have D:Hid (gY (kr n) l (k+1) c=gn (kr n l[k]) (gY (kr n) l k c)):=pm _ _ _ _ o;have G:Hid (gY (kr n) l (k+1) c = -1->gn (b5 (fun k=>kr n k+1) l) c = -1):=by intro r;have:=im (kr n) (l.take (k+1)) (l.drop (k+1));rw[List.take_append_drop]at this;rw[kE];unfold gY gn at r;unfold gn;rw[if_neg];intro R;rw[if_pos om]at r;omega
   clear I;go_wp2_with fail;refine (Z S l[k] V P N Y O _ wr u (fun b hb=>Zd (p b hb) s) om q).mono ?_;rintro e w1 ⟨rfl,y⟩;rw[<- D.out];have B:=jB (kr n l[k]) (gY (kr n) l k c) q;rw[<- D.out]at B;have f:=d.trans (y.mono s);clear D y f0 f1 f2 f3 f4 u d;generalize r:gY (kr n) l (k+1) c=m at *;have Q:=r;have C:=a7 G;have z:=a7 r;clear G r Q;go_wp2;·go_ret;refine⟨fO ?_,f⟩;rw[C.out om]
   ·go_roundw;case rel=>exact⟨k+1,om,by go_num,by rw[z.out],by rw[z.out];omega,f⟩
    case measure=>simp[intOf];omega
  ·have t:k=l.length:=by omega
   have z:Hid (gY (kr n) l k c=gn (b5 (fun k=>kr n k+1) l) c):=by show _=_;unfold gY;rw[kE,t,List.take_length]
   clear t A;go_wp2;go_ret;exact⟨fO z.out,d⟩
theorem y9(n:Nat)(G:rO n):rO (n+1):=by
 intro S t c0 c1 c2 c3 c4 a w D s I J;obtain⟨rfl,rfl,rfl,F,-,-,B,y⟩:=D;have x:kr (n+1) t=(Nd.text t).size+jc (Nd.names t)+b5 (fun k=>kr n k+1) (Nd.kids t):=rfl;have l:=a7 x;clear x;unfold maxLen at F;by_cases z:a-(Nd.text t).size<0;·go_in;go_wp2;go_ret;exact⟨fO (by rw[gn,l.out,if_neg om]),gF _ _⟩
 have c:Bw w (w.alloc (Zc #[Zi Zk (Nd.sort t),Zi Zk (Nd.num t),Zt (Nd.text t),c3,c4] 26)):=gF _ _;have i:=B.keep (a6 c s) (fun _ h=>h);have g:=y.keepT (a6 c s) (fun _ h=>h);have o:=jB (jc (Nd.names t)) (a-(Nd.text t).size) om;have r:Hid (gn (jc (Nd.names t)) (a-(Nd.text t).size)=gn ((Nd.text t).size+jc (Nd.names t)) a):=by show _=_;rw[<- kX];congr 1;rw[gn,if_pos om]
 clear B y;go_in;go_wp2_with fail;refine (oW S _ _ _ _ i om om).mono ?_;rintro e w1 ⟨rfl,rfl⟩;rw[r.out];rw[r.out]at o;generalize A:gn ((Nd.text t).size+jc (Nd.names t)) a=m at *;have p:=a7 A;clear A r;by_cases E:m<0;·go_wp2;go_ret;refine⟨fO ?_,c⟩;rw[l.out,<- kX,p.out,gn,if_neg om]
 ·go_wp2_with fail;refine (yd n G S _ _ _ _ g (fun b H=>by have:=s b H;simp;omega) om om).mono ?_;rintro e w1 ⟨rfl,j⟩;have d:=b4 c zS j;have f:=jB (b5 (fun k=>kr n k+1) (Nd.kids t)) m om;have u:Hid (gn (b5 (fun k=>kr n k+1) (Nd.kids t)) m=gn (kr (n+1) t) a):=by show _=_;rw[l.out,<- kX,p.out]
  clear c j i g p l;rw[u.out];rw[u.out]at f;generalize C:gn (kr (n+1) t) a=q at *;have v:=a7 C;clear C u;go_wp2;·go_ret;exact⟨fO (by rw[v.out];omega),d⟩
  ·go_ret;exact⟨fO v.out.symm,d⟩
theorem Br:∀n,rO n:=by
 intro n;induction n with
 | zero=>intro S t c0 c1 c2 c3 c4 a w b;exact b.elim
 | succ n c=>exact y9 n c
theorem Tryz.info_node:(prog.info? 40).map (fun i=>(i.zero,i.size,i.bytes))=Zo (Zo (Za #[Zi Zk 0,Zi Zk 0,Zt Ze,Zs Zn 0 0,Zs Zn 0 0]),5,80):=by kernel_rfl
theorem Al (n:Nat) (d:n<=1048576) (w:Zw):(Instr.makeSlice 38 (Zi Zk (n:Int)) (Zi Zk (n:Int))).run prog w =
  .ok (Zs (Zo ⟨w.heap.size,0,Zn⟩) n n) (w.alloc (Zc (madeCells #[Zi Zk 0,Zi Zk 0,Zt Ze,Zs Zn 0 0,Zs Zn 0 0] (n*5)) 40)):=by obtain⟨i0,hi,c,a,b⟩:=info_parts Tryz.info_node;have:=run_make (P:=prog) w 38 40 i0 _ underlying38 hi c Zk Zk (n:Int) (n:Int) om om (by rw[b];omega) om;rw[a]at this;simpa [Value.cells] using this
def rS(n:Nat):Prop:=∀(S:Nat->Prop)(t:T n)(c0 c1 c2 c3 c4:Zv)(w:Zw),gJ S w n t c0 c1 c2 c3 c4->(Bd S w)->kr n t<=1048576 ->
 Calls prog 9 #[Za #[c0,c1,c2,c3,c4]] w fun e a=>∃d g c h f,e=Zr (Za #[d,g,c,h,f])/\fZ (fun b=>w.heap.size<=b/\b<a.heap.size) a n t d g c h f/\Bw w a/\jf w.heap.size a
theorem xU (n:Nat) (hn:rS n) (S:Nat->Prop) (l:List (T n)) (v:Zv) (w:Zw) (hl:ig S w (gJ S w n) l v) (G:Bd S w) (ab:b5 (fun k=>kr n k+1) l<=1048576) :
  Calls prog 36 #[v] w fun e J=>∃U,e=Zr U/\ig (fun b=>w.heap.size<=b/\b<J.heap.size) J (fZ (fun b=>w.heap.size<=b/\b<J.heap.size) J n) l U/\mz U/\Bw w J/\jf w.heap.size J:=by
 obtain⟨ao,cap,rfl,N,V⟩:=hl;have aa:=mw (kr n) l;have L:=Al l.length om;go_in;go_wp2;go_loopw [4] (fun i wr=>∃ (k:Nat) (F:Nat->Zv),k<=l.length/\i=Zi Zk k/\wr.rowIs w.heap.size 40 (l.length*5) F/\(Bw w wr/\jf w.heap.size wr) /\
   ∀j (h:j<l.length),j<k->fZ (fun b=>w.heap.size<b/\b<wr.heap.size) wr n l[j] (F (j*5)) (F (j*5+1)) (F (j*5+2)) (F (j*5+3)) (F (j*5+4)))
  (fun i _=>l.length-(intOf i).toNat)
 case atStart=>
  obtain⟨F,hF⟩:=lZ w #[Zi Zk 0,Zi Zk 0,Zt Ze,Zs Zn 0 0,Zs Zn 0 0] (l.length*5) 40;exact⟨0,F,ZE _,rfl,hF,⟨gF _ _,fun b o h1 h2=>by
   have:b=w.heap.size:=by simp at h2;omega
   subst this;exact hF.frozen o⟩,fun j _ h=>absurd h (Nat.not_lt_zero _)⟩
 case round=>
  obtain⟨k,F,hk,rfl,c,⟨d,H⟩,f⟩:=hrel;by_cases C:k<l.length
  ·obtain⟨b,off,rfl,p,q⟩:=V (by intro h;rw[h]at C;simp at C);obtain⟨d0,d1,d2,d3,d4,Z,e1,e2,e3,Y,hr⟩:=q k C;have f0:=kC d Z (G b p);have f1:=kC d e1 (G b p);have f2:=kC d e2 (G b p);have f3:=kC d e3 (G b p);have f4:=kC d Y (G b p);clear V q Z e1 e2 e3 Y;have K:=hr.keep (a6 d G) (fun _ h=>h);have m:=d.size;have O:=gX (fun k=>kr n k+1) l l[k] (Zg C);clear hr L;go_wp2_with fail;refine (hn S l[k] d0 d1 d2 d3 d4 wr K (fun b E=>Zd (G b E) m) om).mono ?_;rintro e w1 ⟨g0,g1,g2,g3,g4,rfl,I,g,P⟩;have D:=H.step g P m;have ac:=g.size;have M:=c.lt;have a:w1.rowIs w.heap.size 40 (l.length*5) F:=c.of_block (g.block _ M);have q0:=a.cell (i:=k*5) om;have q1:=a.cell (i:=k*5+1) om;have q2:=a.cell (i:=k*5+2) om;have q3:=a.cell (i:=k*5+3) om;have q4:=a.cell (i:=k*5+4) om;have r0:=a.frozen (k*5);have r1:=a.frozen (k*5+1);have r2:=a.frozen (k*5+2);have r3:=a.frozen (k*5+3);have r4:=a.frozen (k*5+4);obtain⟨t,r,s,x,y,B,u,z,A,rfl,rfl,rfl,rfl,rfl⟩:=I.shape;have HR:Hid (∀ j (h:j<l.length),j<k+1->fZ (fun b=>w.heap.size<b/\b<(rH w1 w.heap.size (k*5) (Zi Zk t) (Zi Zk r) (Zt s) (Zs x y B) (Zs u z A)).heap.size)
     (rH w1 w.heap.size (k*5) (Zi Zk t) (Zi Zk r) (Zt s) (Zs x y B) (Zs u z A)) n l[j]
     (kL (k*5) F (Zi Zk t) (Zi Zk r) (Zt s) (Zs x y B) (Zs u z A) (j*5)) (kL (k*5) F (Zi Zk t) (Zi Zk r) (Zt s) (Zs x y B) (Zs u z A) (j*5+1))
     (kL (k*5) F (Zi Zk t) (Zi Zk r) (Zt s) (Zs x y B) (Zs u z A) (j*5+2)) (kL (k*5) F (Zi Zk t) (Zi Zk r) (Zt s) (Zs x y B) (Zs u z A) (j*5+3))
     (kL (k*5) F (Zi Zk t) (Zi Zk r) (Zt s) (Zs x y B) (Zs u z A) (j*5+4))):=by
    intro j hj ad
    by_cases Q:j<k
    ·rw[lg _ _ _ _ _ _ _ (j*5) om,lg _ _ _ _ _ _ _ (j*5+1) om,lg _ _ _ _ _ _ _ (j*5+2) om,lg _ _ _ _ _ _ _ (j*5+3) om,lg _ _ _ _ _ _ _ (j*5+4) om]
     refine (f j hj Q).keep (fun b E=>?_) (fun b E=>?_)
     ·rw[nx om];exact g.block b E.2
     ·rw[ol];omega
    ·have:j=k:=by omega
     subst this
     rw[GU,Hk,Ha,GW,GX]
     refine I.keep (fun b E=>?_) (fun b E=>?_)
     ·rw[nx om]
     ·rw[ol];omega
   have X:=E4 a (k*5) (Zi Zk t) (Zi Zk r) (Zt s) (Zs x y B) (Zs u z A);have HB:=tr (o:=k*5) (g0:=Zi Zk t) (g1:=Zi Zk r) (g2:=Zt s) (g3:=Zs x y B) (g4:=Zs u z A) (b4 d m g) (Zl _);have R:Hid (_/\_/\_/\_):=⟨X,HB,HR.out,(((((D.set ⟨w.heap.size,k*5,Zn⟩ (Zi Zk t)).set ⟨w.heap.size,k*5+1,Zn⟩ (Zi Zk r)).set ⟨w.heap.size,k*5+2,Zn⟩ (Zt s)).set ⟨w.heap.size,k*5+3,Zn⟩ (Zs x y B)).set ⟨w.heap.size,k*5+4,Zn⟩ (Zs u z A))⟩;clear H D P;clear X HB HR f c d g I hn a f0 f1 f2 f3 f4 K O;go_wp2;go_roundw;case rel=>exact⟨k+1,_,om,by go_num,R.out.1,⟨R.out.2.1,R.out.2.2.2⟩,R.out.2.2.1⟩
   case measure=>simp[intOf];omega
  ·have W:k=l.length:=by omega
   have HF:Hid (ig (fun b=>w.heap.size<=b/\b<wr.heap.size) wr (fZ (fun b=>w.heap.size<=b/\b<wr.heap.size) wr n) l (Zs (Zo ⟨w.heap.size,0,Zn⟩) l.length l.length)):=by
    refine⟨_,_,rfl,N,fun _=>⟨w.heap.size,0,rfl,⟨Zl _,c.lt⟩,fun i hi=>?_⟩⟩;refine⟨_,_,_,_,_,?_,?_,?_,?_,?_,(f i hi om).keep (fun _ _=>rfl) (fun b E=>⟨om,E.2⟩)⟩;·simpa using c.cell (i:=i*5) om
    ·simpa using c.cell (i:=i*5+1) om
    ·simpa using c.cell (i:=i*5+2) om
    ·simpa using c.cell (i:=i*5+3) om
    ·simpa using c.cell (i:=i*5+4) om
   clear W V c L f;go_wp2;go_ret;exact⟨_,rfl,HF.out,⟨_,_,_,rfl,Zl _⟩,d,H⟩
theorem xE(n:Nat)(hn:rS n):rS (n+1):=by
 intro S t c0 c1 c2 c3 c4 w ht E R;obtain⟨rfl,rfl,rfl,hs,L,I,X,Z⟩:=ht;have Y:kr (n+1) t=(Nd.text t).size+jc (Nd.names t)+b5 (fun k=>kr n k+1) (Nd.kids t):=rfl;rw[Y]at R;clear Y;have u:Bw w (((w.alloc (Zc #[Zi Zk (Nd.sort t),Zi Zk (Nd.num t),Zt (Nd.text t),c3,c4] 26)).alloc
   (Zc #[Zi Zk 0,Zi Zk 0,Zt ⟨#[]⟩,Zs Zn 0 0,Zs Zn 0 0] 40)).alloc (Zc #[Zi Zk (Nd.sort t),Zi Zk (Nd.num t),Zt (Nd.text t),Zs Zn 0 0,Zs Zn 0 0] 40)):=
  ((gF _ _).alloc zS _).alloc zE _
 have M:=X.keep (a6 u E) (fun _ h=>h);have W:Hid (ig S _ (gJ S _ n) (Nd.kids t) c4):=Z.keepT (a6 u E) (fun _ h=>h);obtain⟨ka,kc,V,-⟩:=Z;subst V;clear X;go_in;go_wp2_with fail;refine (oU S _ _ _ M (fun b f=>by have:=E b f;simp;omega) om).mono ?_;rintro e w1 ⟨v3,rfl,D,l,N,q⟩;have A:jf w.heap.size w1:=jf.step (((jf.base w).alloc _ _).alloc _ _ |>.alloc _ _) l N zE;have Q:=a7 q;clear q;have T:=l.size;simp at T;obtain⟨r,o⟩:=ro l;obtain⟨na,m,rfl,-⟩:=id D;have K:Hid (fL _ w1 (Nd.names t) (Zs na (Nd.names t).length m)):=D;have B:=b4 u zE l;have G:Hid (ig S w1 (gJ S w1 n) (Nd.kids t) _):=W.out.keepT (a6 l (fun b f=>by have:=E b f;simp;omega)) (fun _ h=>h);clear D W M u;have ak:w1.frozen? ⟨w.heap.size+1+1,3,Zn⟩=false:=by rw[o _ _ zS];simp[go_sem]
 have p:jy S w1 (w1.setCell ⟨w.heap.size+1+1,3,Zn⟩ (Zs na (Nd.names t).length m)):=fun b f=>ZD _ _ _ _ (by have:=E b f;show b≠w.heap.size+1+1;omega);have O:Hid (ig S _ (gJ S _ n) (Nd.kids t) _):=G.out.keepT p (fun _ h=>h);have y:Bw w (w1.setCell ⟨w.heap.size+1+1,3,Zn⟩ (Zs na (Nd.names t).length m)):=B.setCell (by show w.heap.size<=w.heap.size+1+1;omega) _;clear G p B;go_wp2_with fail;refine (xU n hn S _ _ _ O.out (fun b f=>by have:=E b f;simp;omega) om).mono ?_;rintro e a ⟨v4,rfl,C,s,i,H⟩;have z:jf w.heap.size a:=jf.step (A.set ⟨w.heap.size+1+1,3,Zn⟩ (Zs na (Nd.names t).length m)) i H zE;have P:=a7 s;clear s;have U:=i.size;simp at U;obtain⟨d,c⟩:=ro i;obtain⟨g,j,rfl,-⟩:=id C;have J:Hid (ig _ a (fZ _ a n) (Nd.kids t) (Zs g (Nd.kids t).length j)):=C;have x:=b4 y zE i;have F:Hid (Below _ _ a):=i;have m0:a.cell? ⟨w.heap.size+1+1,0,Zn⟩=Zo (Zi Zk (Nd.sort t)):=by rw[d _ _ zE];simp[go_sem,r]
 have af:a.frozen? ⟨w.heap.size+1+1,0,Zn⟩=false:=by rw[c _ _ zE];simp[go_sem,o]
 have m1:a.cell? ⟨w.heap.size+1+1,1,Zn⟩=Zo (Zi Zk (Nd.num t)):=by rw[d _ _ zE];simp[go_sem,r]
 have aj:a.frozen? ⟨w.heap.size+1+1,1,Zn⟩=false:=by rw[c _ _ zE];simp[go_sem,o]
 have m2:a.cell? ⟨w.heap.size+1+1,2,Zn⟩=Zo (Zt (Nd.text t)):=by rw[d _ _ zE];simp[go_sem,r]
 have ae:a.frozen? ⟨w.heap.size+1+1,2,Zn⟩=false:=by rw[c _ _ zE];simp[go_sem,o]
 have m3:a.cell? ⟨w.heap.size+1+1,3,Zn⟩=Zo (Zs na (Nd.names t).length m):=by rw[d _ _ zE];simp[go_sem,r]
 have ah:a.frozen? ⟨w.heap.size+1+1,3,Zn⟩=false:=by rw[c _ _ zE];simp[go_sem,o]
 have m4:a.cell? ⟨w.heap.size+1+1,4,Zn⟩=Zo (Zs Zn 0 0):=by rw[d _ _ zE];simp[go_sem,r]
 have ad:a.frozen? ⟨w.heap.size+1+1,4,Zn⟩=false:=by rw[c _ _ zE];simp[go_sem,o]
 have r0:a.cell? ⟨w.heap.size+1,0,Zn⟩=Zo (Zi Zk 0):=by rw[d _ _ zE];simp[go_sem,r]
 have ab:a.frozen? ⟨w.heap.size+1,0,Zn⟩=false:=by rw[c _ _ zE];simp[go_sem,o]
 have r1:a.cell? ⟨w.heap.size+1,1,Zn⟩=Zo (Zi Zk 0):=by rw[d _ _ zE];simp[go_sem,r]
 have ag:a.frozen? ⟨w.heap.size+1,1,Zn⟩=false:=by rw[c _ _ zE];simp[go_sem,o]
 have r2:a.cell? ⟨w.heap.size+1,2,Zn⟩=Zo (Zt ⟨#[]⟩):=by rw[d _ _ zE];simp[go_sem,r]
 have ac:a.frozen? ⟨w.heap.size+1,2,Zn⟩=false:=by rw[c _ _ zE];simp[go_sem,o]
 have r3:a.cell? ⟨w.heap.size+1,3,Zn⟩=Zo (Zs Zn 0 0):=by rw[d _ _ zE];simp[go_sem,r]
 have aa:a.frozen? ⟨w.heap.size+1,3,Zn⟩=false:=by rw[c _ _ zE];simp[go_sem,o]
 have r4:a.cell? ⟨w.heap.size+1,4,Zn⟩=Zo (Zs Zn 0 0):=by rw[d _ _ zE];simp[go_sem,r]
 have ai:a.frozen? ⟨w.heap.size+1,4,Zn⟩=false:=by rw[c _ _ zE];simp[go_sem,o]
 clear C O y l i r o d c;have HF:Hid (fZ (fun b=>w.heap.size<=b/\b<(rH (a.setCell ⟨w.heap.size+1+1,4,Zn⟩ (Zs g (Nd.kids t).length j)) (w.heap.size+1) 0 (Zi Zk (Nd.sort t)) (Zi Zk (Nd.num t)) (Zt (Nd.text t)) (Zs na (Nd.names t).length m) (Zs g (Nd.kids t).length j)).heap.size)
   (rH (a.setCell ⟨w.heap.size+1+1,4,Zn⟩ (Zs g (Nd.kids t).length j)) (w.heap.size+1) 0 (Zi Zk (Nd.sort t)) (Zi Zk (Nd.num t)) (Zt (Nd.text t)) (Zs na (Nd.names t).length m) (Zs g (Nd.kids t).length j))
   (n+1) t (Zi Zk (Nd.sort t)) (Zi Zk (Nd.num t)) (Zt (Nd.text t)) (Zs na (Nd.names t).length m) (Zs g (Nd.kids t).length j)):=by
  refine⟨rfl,rfl,rfl,hs,L,I,K.out.keep (fun b f=>?_) (fun b f=>?_),J.out.keepN (fun b f=>?_) (fun b f=>?_),Q.out,P.out⟩
  ·simp at f
   rw[nx om,ZD _ _ _ _ (by show b≠w.heap.size+1+1;omega),F.out.block b zE,ZD _ _ _ _ (by show b≠w.heap.size+1+1;omega)]
  ·simp at f;rw[ol];simp;omega
  ·simp at f
   rw[nx om,ZD _ _ _ _ (by show b≠w.heap.size+1+1;omega)]
  ·simp at f;rw[ol];simp;omega
 have HE:Hid (Bw w (rH (a.setCell ⟨w.heap.size+1+1,4,Zn⟩ (Zs g (Nd.kids t).length j)) (w.heap.size+1) 0 (Zi Zk (Nd.sort t)) (Zi Zk (Nd.num t)) (Zt (Nd.text t)) (Zs na (Nd.names t).length m) (Zs g (Nd.kids t).length j))):=
  tr (x.setCell (by show w.heap.size<=w.heap.size+1+1;omega) _) om
 have HT:Hid (jf w.heap.size (rH (a.setCell ⟨w.heap.size+1+1,4,Zn⟩ (Zs g (Nd.kids t).length j)) (w.heap.size+1) 0 (Zi Zk (Nd.sort t)) (Zi Zk (Nd.num t)) (Zt (Nd.text t)) (Zs na (Nd.names t).length m) (Zs g (Nd.kids t).length j))):=
  ((((((z.set ⟨w.heap.size+1+1,4,Zn⟩ (Zs g (Nd.kids t).length j)).set ⟨w.heap.size+1,0,Zn⟩ (Zi Zk (Nd.sort t))).set ⟨w.heap.size+1,0+1,Zn⟩ (Zi Zk (Nd.num t))).set ⟨w.heap.size+1,0+2,Zn⟩ (Zt (Nd.text t))).set ⟨w.heap.size+1,0+3,Zn⟩ (Zs na (Nd.names t).length m)).set ⟨w.heap.size+1,0+4,Zn⟩ (Zs g (Nd.kids t).length j))
 clear K J F x L I hs A z N H;go_wp2_with fail;refine bodyPost_ret (v:=Za #[Zi Zk (Nd.sort t),Zi Zk (Nd.num t),Zt (Nd.text t),Zs na (Nd.names t).length m,Zs g (Nd.kids t).length j]) (by simp[results,results9,go_sem,r0,r1,r2,r3,r4]) rfl ?_;exact⟨_,_,_,_,_,rfl,HF.out,HE.out,HT.out⟩
theorem mB:∀n,rS n:=by
 intro n;induction n with
 | zero=>intro S t c0 c1 c2 c3 c4 w a;exact a.elim
 | succ n b=>exact xE n b
end Go.Proofs.YtcfojmaccikgeaaGreatDoor
