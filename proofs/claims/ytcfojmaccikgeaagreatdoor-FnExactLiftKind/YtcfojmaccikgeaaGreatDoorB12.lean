import Derived.Test.YtcfojmaccikgeaaGreatDoorB2
import Derived.Test.YtcfojmaccikgeaaGreatDoorB11
import Derived.Maps.Own
import Derived.Deep.RegionLaw
open Go.Value renaming slice→Zs,int→Zi,pointer→Zp,tuple→Zu
open Go.IntKind renaming i64→Zk
open Go.Ending renaming returned→Zr
open Go.Obj renaming cells→Zc
open Option renaming none→Zn,some→Zo
open Go renaming World→Zw,Value→Zv
open Go.RowKit.Below renaming heap_alloc→Zh
namespace Go.Proofs.YtcfojmaccikgeaaGreatDoor
set_option maxRecDepth 100000
set_option maxHeartbeats 16000000
open Go.RowKit Go.WideMaps Go.Maps
variable {S S':Nat->Prop} {w w':Zw} {v:Zv}
def jq(l:List ByteArray):Nat->DataW Unit
 | 0=>.map []
 | k+1=>(jq l k).put (.string (l.getD k ByteArray.empty).data.toList) (.lit (.int Zk k))
def jF(S:Nat->Prop)(w:Zw)(l:List ByteArray)(v:Zv):Prop:=
 ∃a,v=.map (Zo a)/\S a/\w.ownsMap Tryz.prog 9 (plainElem Tryz.prog 3) a l.length (jq l l.length)
theorem jF.keep{l:List ByteArray}(h:jF S w l v)(i:jy S w w')(j:∀b,S b->S' b):jF S' w' l v:=by obtain⟨c,rfl,d,g,a,f,e⟩:=h;exact⟨c,rfl,j c d,g,a,by rw[i c d];exact f,e⟩
def d8(S:Nat->Prop)(w:Zw):(n:Nat)->K n->Zv->Prop
 | 0,_,_=>False
 | n + 1, t, v => ∃ b a d c, v = Zp (Zo ⟨b, 0, Zn⟩) /\ S b /\ w.heap[b]? = Zo (Zc #[Zi Zk (Kd.sort t), a, d, c] 118 (0, 0)) /\ fL S w (Kd.names t) a /\
   (Kd.sort t=5->jF S w (Kd.names t) d)/\lx S w (d8 S w n) (Kd.kids t) c
theorem d8.keep(d:jy S w w')(c:∀b,S b->S' b):∀ {n:Nat} {t:K n} {v:Zv},d8 S w n t v->d8 S' w' n t v:=by
 intro n;induction n with
 | zero=>intro t v h;exact h.elim
 | succ n q=>intro t v h;obtain⟨b,o,k,i,f,e,a,p,m,g⟩:=h;exact⟨b,o,k,i,f,c b e,by rw[d b e];exact a,p.keep d c,fun j=>(m j).keep d c,g.keep d c fun _ _ _ l=>q l⟩
theorem d8.ptr{n:Nat}{t:K n}(h:d8 S w n t v):∃b,v=Zp (Zo ⟨b,0,Zn⟩)/\S b:=by
 cases n with
 | zero=>exact h.elim
 | succ n=>obtain⟨b,d,e,f,c,a,-⟩:=h;exact⟨b,c,a⟩
theorem Tryz.skeyed:Keyed Tryz.prog 9:=string_keyed Tryz.underlying9
theorem p9 (S:Nat->Prop) (l:List ByteArray) (v:Zv) (w:Zw) (H:fL S w l v) (E:Bd S w) :
  Calls Tryz.prog 151 #[v] w fun e z=>∃B,e=Zr B/\jF (fun b=>w.heap.size<=b/\b<z.heap.size) z l B/\Bw w z:=by
 obtain⟨L,cap,rfl,r,A,u⟩:=H;have D:∀(m:Int)(w:Zw),(Instr.makeMap 115 (Zo (Zi Zk m))).run Tryz.prog w=.ok (.map (Zo w.heap.size)) (w.alloc (.map #[] 0)):=by intro m w;simp[Instr.makeMap,go_sem]
 unfold maxLen at r;go_in;go_wp2;go_loopw [11] (fun i wr=>∃k:Nat,k<=l.length/\i=Zi Zk k/\wr.ownsMap Tryz.prog 9 (plainElem Tryz.prog 3) w.heap.size k (jq l k)/\Bw w wr) (fun i _=>l.length-(intOf i).toNat);case atStart=>exact⟨0,Nat.zero_le _,rfl,World.ownsMap_made _ _ _ _,gF _ _⟩
 case round=>
  obtain⟨k,K,rfl,a,c⟩:=hrel;by_cases f:k<l.length
  ·obtain⟨b,off,rfl,y,o⟩:=u (by intro h;rw[h]at f;simp at f);have f0:=kC c (o k f) (E b y);have q:=A l[k] (List.getElem_mem f);have J:Hid (l.getD k ByteArray.empty=l[k]):=by show _=_;simp[List.getD,f]
   have t:keyOf Tryz.prog 9 (.string l[k])=Zo (.string l[k].data.toList):=keyOf_string_mk Tryz.underlying9 q;have x:(Lit.int Zk (k:Int)).wf=true:=by
    have e:wrap64 (k:Int)=(k:Int):=by unfold wrap64;omega
    have h:=wrap64_wf (k:Int);rwa [e]at h
   clear u A o q;generalize l[k]=s at *;go_wp2_with (first
    | (at_mapUpdate;refine wpList_mapUpdate_own _ rfl _ _ _ 115 rfl 9 3 Tryz.skeyed Tryz.underlying115 _ w.heap.size k _ rfl a (by unfold maxLen;omega) _ _ _ rfl rfl t _ [] (plainElem_int Tryz.underlying3 x) ?_)
    | go_in)
   intro w1 g d;have C:Hid (w1.ownsMap Tryz.prog 9 (plainElem Tryz.prog 3) w.heap.size (k+1) (jq l (k+1))):=by show World.ownsMap _ _ _ _ _ _ _;rw[jq,J.out];exact g
   have I:=c.grown d c.size (fun j F=>by cases F;exact Nat.le_refl _);clear g d a;go_wp2;go_roundw;case rel=>exact⟨k+1,om,by go_num,C.out,I⟩
   case measure=>simp[intOf];omega
  ·have p:k=l.length:=by omega
   have G:Hid (jF (fun b=>w.heap.size<=b/\b<wr.heap.size) wr l (.map (Zo w.heap.size))):=by rw[p]at a;exact⟨_,rfl,⟨Nat.le_refl _,a.lt⟩,a⟩
   clear p u A a;go_wp2;go_ret;exact⟨_,rfl,G.out,c⟩
end Go.Proofs.YtcfojmaccikgeaaGreatDoor
namespace Go.Proofs.YtcfojmaccikgeaaGreatDoor
set_option maxRecDepth 100000
set_option maxHeartbeats 16000000
open Go.RowKit Go.WideMaps Go.Maps
variable {S:Nat->Prop} {M n k:Nat} {s:Int} {nv v:Zv} {w1 wr:Zw}
theorem Tryz.info_pk:(Tryz.prog.info? 82).map (fun i=>(i.zero,i.size,i.bytes))=Zo (Zo (Zp Zn),1,8):=by kernel_rfl
structure li(S:Nat->Prop)(M n:Nat)(ks:List (K n))(s:Int)(nv:Zv)(w1:Zw)(k:Nat)(v:Zv)(wr:Zw):Prop where
 below:Below M w1 wr
 box:wr.heap[M]?=Zo (Zc #[Zi Zk s,nv,.map Zn,v] 118 (0,0))
 row:∃xs:List Zv,wr.ownsRow (M+1) 82 1 v k xs/\∀j (h:j<ks.length) (hx:j<xs.length),d8 (fun b=>S b∨(M+1<=b/\b<wr.heap.size/\v.ownBlock≠Zo b)) wr n ks[j] xs[j]
theorem li.lt{a:List (K n)}(h:li S M n a s nv w1 k v wr):M<wr.heap.size:=(Array.getElem?_eq_some_iff.1 h.box).1
theorem Do {w:List (K n)} {W w2 i:Zw} {g cap:Nat} {z:Zv} {xs:List Zv} {box one:Obj} (h:li S M n w s nv w1 k v wr) (hk:k<w.length) (Q:∀ b,S b->b<M) (_hM:M<=w1.heap.size)
  (X:∀b:Nat,W.heap[b]?=(wr.alloc box).heap[b]?) (U:W.heap.size=wr.heap.size+1) (q:W.os=wr.os/\W.tape=wr.tape/\W.output=wr.output)
  (m:wr.ownsRow (M+1) 82 1 v k xs) (L:∀j (h:j<w.length) (R:j<xs.length),d8 (fun b=>S b∨(M+1<=b/\b<wr.heap.size/\v.ownBlock≠Zo b)) wr n w[j] xs[j])
  (d:Bw W w2) (J:d8 (fun b=>S b∨(W.heap.size<=b/\b<w2.heap.size)) w2 n w[k] z)
  (l:i.ownsRow (M+1) 82 1 (Zs (Zo ⟨g,0,Zn⟩) (k+1) cap) (k+1) (xs++[z])) (c:(w2.alloc one).grownBy i v.ownBlock) (C:v.ownBlock=Zo g∨g=w2.heap.size+1) :
  li S M n w s nv w1 (k+1) (Zs (Zo ⟨g,0,Zn⟩) (k+1) cap) (i.setCell ⟨M,3,Zn⟩ (Zs (Zo ⟨g,0,Zn⟩) (k+1) cap)):=by
 have N:=h.lt;have V:=d.size;have O:=c.size;simp at O;have f:∀b,v.ownBlock=Zo b->M+1<=b/\b<wr.heap.size:=fR m;have G:xs.length=k:=by simpa using m.1
 have F:∀b,b<w2.heap.size->v.ownBlock≠Zo b->i.heap[b]?=w2.heap[b]?:=fun b a D=>by rw[c.block b zE (fun e=>D e.symm),Zh _ _ _ a]
 have B:∀b,b<wr.heap.size->v.ownBlock≠Zo b->i.heap[b]?=wr.heap[b]?:=fun b a E=>by rw[F b om E,d.block b om,X,Zh _ _ _ a]
 have u:∀b,b≠M->(i.setCell ⟨M,3,Zn⟩ (Zs (Zo ⟨g,0,Zn⟩) (k+1) cap)).heap[b]?=i.heap[b]?:=fun b a=>Below.heap_setCell _ _ _ _ a;have p:(i.setCell ⟨M,3,Zn⟩ (Zs (Zo ⟨g,0,Zn⟩) (k+1) cap)).heap.size=i.heap.size:=zS;have H:v.ownBlock≠Zo M:=fun e=>by have:=f M e;omega
 have t:=(B M N H).trans h.box;have o:∀b,v.ownBlock≠Zo b->b<w2.heap.size->(Value.slice (Zo ⟨g,0,Zn⟩) (k+1) cap).ownBlock≠Zo b:=by
  intro b Z h2 e;have e:g=b:=by simpa [Value.ownBlock] using e
  rcases C with T|T;·exact Z (by rw[T,e])
  ·omega
 refine⟨⟨?_,?_,?_,by rw[p];have:=h.below.size;omega,fun b a=>?_⟩,?_,xs++[z],?_,fun j Y R=>?_⟩;·show i.os=w1.os;rw[c.os];exact d.os.trans (q.1.trans h.below.os)
 ·show i.tape=w1.tape;rw[c.tape];exact d.tape.trans (q.2.1.trans h.below.tape)
 ·show i.output=w1.output;rw[c.output];exact d.output.trans (q.2.2.trans h.below.output)
 ·rw[u b om,B b om (fun e=>by have:=f b e;omega)];exact h.below.block b a
 ·simp[World.setCell,Array.getElem?_modify,t]
 ·exact gg l fun P I=>u P (by have:=fR l P I;omega)
 ·by_cases aa:j<k
  ·have x:j<xs.length:=by omega
   rw[List.getElem_append_left x];refine (L j Y x).keep (fun b a=>?_) (fun b a=>?_)
   ·rcases a with a|⟨A,d,r⟩;·have:=Q b a;rw[u b om,B b om (fun e=>by have:=f b e;omega)]
    ·rw[u b om,B b d r]
   ·rcases a with a|⟨A,d,r⟩;·exact .inl a
    ·exact .inr ⟨A,by rw[p];omega,o b r om⟩
  ·have y:j=k:=by simp at R;omega
   subst y;have:(xs++[z])[j]=z:=by simp[<- G]
   rw[this];refine J.keep (fun b a=>?_) (fun b a=>?_)
   ·rcases a with a|a;·have:=Q b a;rw[u b om,F b om (fun e=>by have:=f b e;omega)]
    ·rw[u b om,F b a.2 (fun e=>by have:=f b e;omega)]
   ·rcases a with a|a;·exact .inl a
    ·exact .inr ⟨om,by rw[p];omega,o b (fun e=>by have:=f b e;omega) a.2⟩
theorem wt{d:Int}(l:List (K n))(h:l.all (fun x=>fK n x d)=true):l.length<=b5 (fun x=>fP n x) l:=by
 induction l with
 | nil=>simp
 | cons x r a=>simp only[List.all_cons,Bool.and_eq_true]at h;have c:=s4 n x d h.1;have b:=a h.2;simp only[b5,List.length_cons];omega
def pP(S:Nat->Prop)(n:Nat)(t:K n)(w:Zw)(e:Ending)(w':Zw):Prop:=
 Bw w w' /\ ∃v,e=Zr v/\d8 (fun b=>S b∨(w.heap.size<=b/\b<w'.heap.size)) w' n t v
def sE(n:Nat):Prop:=∀(S:Nat->Prop)(t:K n)(c0 c1 c2:Zv)(d:Int)(w:Zw),a8 S w n t c0 c1 c2->(Bd S w)->fK n t d=true->fP n t<=40 ->
 Calls Tryz.prog 114 #[.agg #[c0,c1,c2]] w (pP S n t w)
theorem xJ {w w':Zw} {t:K (n+1)} {pv:Zv} (u:Kd.sort t=s) (f:li S (w.heap.size+1) n (Kd.kids t) s nv w1 (Kd.kids t).length v wr) (m:Bd S w) (d:Bw w w1)
  (A:(Kd.kids t).length<=maxLen) (h:w'.heap[w.heap.size+1]?=Zo (Zc #[Zi Zk s,nv,pv,v] 118 (0,0))) (y:wr.heap.size<=w'.heap.size)
  (j:∀b:Nat,b<wr.heap.size->b≠w.heap.size+1->w'.heap[b]?=wr.heap[b]?) (r:w'.os=wr.os/\w'.tape=wr.tape/\w'.output=wr.output) (E:fL S wr (Kd.names t) nv)
  (D:s=5->jF (fun b=>w.heap.size<=b/\b<w'.heap.size) w' (Kd.names t) pv):pP S (n+1) t w (Zr (Zp (Zo ⟨w.heap.size+1,0,Zn⟩))) w':=by
 have x:=f.lt;obtain⟨F,c,o⟩:=f.row;have z:=d.size;refine⟨⟨r.1.trans (f.below.os.trans d.os),r.2.1.trans (f.below.tape.trans d.tape),r.2.2.trans (f.below.output.trans d.output),om,fun b a=>?_⟩,_,rfl,w.heap.size+1,nv,pv,v,rfl,.inr ⟨om,om⟩,by rw[u];exact h,?_,fun B=>(D (by rw[<- u];exact B)).keep (fun _ _=>rfl) (fun b a=>.inr a),?_⟩;·rw[j b om om,f.below.block b om];exact d.block b a
 ·exact E.keep (fun b a=>j b (by have:=m b a;omega) (by have:=m b a;omega)) (fun b a=>.inl a)
 ·have e:=gg (w':=w') c (fun g l=>j g (fR c g l).2 (by have:=fR c g l;omega));refine nj e A (fun g l=>.inr ?_) (fun i hi C=>?_);·have:=fR e g l;omega
  ·refine (o i hi C).keep (fun b a=>?_) (fun b a=>?_)
   ·rcases a with a|⟨q,k,p⟩;·exact j b (by have:=m b a;omega) (by have:=m b a;omega)
    ·exact j b k om
   ·rcases a with a|⟨q,k,p⟩;·exact .inl a
    ·exact .inr ⟨om,om⟩
theorem Dq(n:Nat)(hn:sE n):sE (n+1):=by
 intro S t c0 c1 c2 d w ht D hg hc;obtain⟨rfl,-,h3,h4⟩:=ht;obtain⟨na,l,rfl,-,-,-⟩:=id h3;obtain⟨H,L,rfl,ae,-⟩:=id h4;simp only[fK,Bool.and_eq_true]at hg;have ax:(Kd.kids t).length<=40:=by have:=wt (Kd.kids t) hg.2;simp only[fP]at hc;omega
 have R:Hid (∀k (h:k<(Kd.kids t).length),fK n (Kd.kids t)[k] (d+1)=true/\fP n (Kd.kids t)[k]<=40):=by intro k h;refine⟨List.all_eq_true.1 hg.2 _ (List.getElem_mem h),?_⟩;have:=gX (fun x=>fP n x) (Kd.kids t) _ (List.getElem_mem h);simp only[fP]at hc;omega
 clear hg hc;unfold maxLen at ae;generalize hs:Kd.sort t=s at *;have HS:Hid (Kd.sort t=s):=hs;clear hs;have E:Bw w ((w.alloc (Zc #[Zi Zk s,Zs na (Kd.names t).length l,Zs H (Kd.kids t).length L] 31)).alloc (Zc #[Zi Zk s,Zs na (Kd.names t).length l,.map Zn,Zs Zn 0 0] 118)):=
  (gF _ _).alloc zS _
 have am:=h3.keep (a6 E D) (fun _ h=>h);have ak:=h4.keepK (a6 E D) (fun _ h=>h);have aa:((w.alloc (Zc #[Zi Zk s,Zs na (Kd.names t).length l,Zs H (Kd.kids t).length L] 31)).alloc (Zc #[Zi Zk s,Zs na (Kd.names t).length l,.map Zn,Zs Zn 0 0] 118)).heap[w.heap.size+1]? =
   Zo (Zc #[Zi Zk s,Zs na (Kd.names t).length l,.map Zn,Zs Zn 0 0] 118 (0,0)):=by
  have:=heap_alloc_new (w.alloc (Zc #[Zi Zk s,Zs na (Kd.names t).length l,Zs H (Kd.kids t).length L] 31)) (Zc #[Zi Zk s,Zs na (Kd.names t).length l,.map Zn,Zs Zn 0 0] 118)
  simpa using this
 have k0:((w.alloc (Zc #[Zi Zk s,Zs na (Kd.names t).length l,Zs H (Kd.kids t).length L] 31)).alloc (Zc #[Zi Zk s,Zs na (Kd.names t).length l,.map Zn,Zs Zn 0 0] 118)).cell? ⟨w.heap.size,0,Zn⟩=Zo (Zi Zk s):=by simp[go_sem]
 have k1:((w.alloc (Zc #[Zi Zk s,Zs na (Kd.names t).length l,Zs H (Kd.kids t).length L] 31)).alloc (Zc #[Zi Zk s,Zs na (Kd.names t).length l,.map Zn,Zs Zn 0 0] 118)).cell? ⟨w.heap.size,1,Zn⟩=Zo (Zs na (Kd.names t).length l):=by simp[go_sem]
 have ap:((w.alloc (Zc #[Zi Zk s,Zs na (Kd.names t).length l,Zs H (Kd.kids t).length L] 31)).alloc (Zc #[Zi Zk s,Zs na (Kd.names t).length l,.map Zn,Zs Zn 0 0] 118)).heap.size=w.heap.size+1+1:=zS;obtain⟨_,_,aj,-,r⟩:=ak;cases aj
 clear h3 h4;go_in;go_wp2_with fail;generalize ((w.alloc (Zc #[Zi Zk s,Zs na (Kd.names t).length l,Zs H (Kd.kids t).length L] 31)).alloc (Zc #[Zi Zk s,Zs na (Kd.names t).length l,.map Zn,Zs Zn 0 0] 118))=w1 at *;have ai:Hid (∀b,S b->b<w.heap.size+1):=fun b p=>by have:=D b p;omega
 go_loopw [15] (fun i wr=>∃(k:Nat)(v:Zv),k<=(Kd.kids t).length/\i=Zi Zk k/\li S (w.heap.size+1) n (Kd.kids t) s (Zs na (Kd.names t).length l) w1 k v wr) (fun i _=>(Kd.kids t).length-(intOf i).toNat);case atStart=>exact⟨0,Zs Zn 0 0,Nat.zero_le _,rfl,Below.refl _ _,aa,[],World.ownsRow_nil _ _ _ _,fun j _ hx=>absurd hx (Nat.not_lt_zero _)⟩
 case round=>
  obtain⟨k,v,hk,rfl,M⟩:=hrel;obtain⟨xs,m,U⟩:=M.row;obtain⟨N,O,rfl⟩:=mX m;have hX:=M.lt;have c:=M.below;have au:=c.size;have HL:=a7 M;have HX:=a7 m;have HK:=a7 U;have x3:wr.cell? ⟨w.heap.size+1,3,Zn⟩=Zo (Zs N k O):=by simp[World.cell?,M.box]
  have xf:∀o,wr.frozen? ⟨w.heap.size+1,o,Zn⟩=false:=fun o=>by simp[World.frozen?,M.box]
  have j0:=kC c k0 om;have j1:=kC c k1 om;clear M m U;by_cases A:k<(Kd.kids t).length
  ·obtain⟨b,off,rfl,ah,C⟩:=r (by intro h;rw[h]at A;simp at A);obtain⟨y0,y1,y2,e0,e1,e2,hr⟩:=C k A;have av:=D b ah;have f0:=kC c e0 om;have f1:=kC c e1 om;have f2:=kC c e2 om;have q:=hr.keep (a6 c (fun b p=>by have:=D b p;omega)) (fun _ h=>h);obtain⟨z0,za,zl,zc,ua,ul,uc,rfl,rfl,rfl⟩:=q.shape;clear r C e0 e1 e2 hr;have X:=(Below.refl wr.heap.size wr).alloc (Nat.le_refl _) (Zc #[Zi Zk z0,Zs za zl zc,Zs ua ul uc] 31);have q5:=q.keep (w':=(wr.alloc (Zc #[Zi Zk z0,Zs za zl zc,Zs ua ul uc] 31)).drew) (a6 X.drew (fun b p=>by have:=D b p;omega)) (fun _ h=>h);have HC:Hid (Calls Tryz.prog 114 _ _ _):=hn S (Kd.kids t)[k] _ _ _ (d+1) _ q5 (fun b p=>by have:=D b p;simp;omega) (R.out k A).1 (R.out k A).2;obtain⟨i0,P,Z,Q,F⟩:=info_parts Tryz.info_pk;have G:Hid (_/\_/\_/\_):=⟨P,Z,Q,F⟩;clear P Z Q F q q5 X;go_wp2_with fail;go_region_law (first
    | (refine step_append_lies _ (by rfl) (.tmp 23) (.tmp 26) 116 (by rfl) (w.heap.size+1+1) 82 i0 _ 1 8 Tryz.underlying116 G.out.1 G.out.2.1 G.out.2.2.1 G.out.2.2.2 rfl zC (Zs N k O) k xs (by rfl) ad ⟨z.heap.size,0,Zn⟩ 1 1 [Zp (Zo ⟨kb,0,Zn⟩)] (by rfl) rfl (World.news_of_block (heap_alloc_new z _)) (by simp[Value.oneCell']) zC (by unfold maxLen;omega) om zE (z.heap.size+1) zS ?_;intro g cap w3 m u V ao;have K:=((u.block (w.heap.size+1) zE (fun e=>by have:=fR HX.out _ e.symm;omega)).trans (Zh _ _ _ om)).trans f;have ab:w3.cell? ⟨w.heap.size+1,3,Zn⟩=Zo (Zs N k O):=(by simp[World.cell?,K]);have T:∀o,w3.frozen? ⟨w.heap.size+1,o,Zn⟩=false:=(fun o=>by simp[World.frozen?,K]))
    | (go_simp;go_at_call 114;refine HC.out.mono ?_;rintro e z ⟨a,kv,rfl,J⟩;obtain⟨kb,rfl,-⟩:=J.ptr;have an:wr.heap.size+1<=z.heap.size:=(by have:=a.size;simpa using this);have f:=((a.block (w.heap.size+1) zE).trans (Zh _ _ _ om)).trans HL.out.box;have ad:=gg (w':=z.alloc (Zc #[Zp (Zo ⟨kb,0,Zn⟩)] 82)) HX.out (fun g' af=>by have:=fR HX.out g' af;rw[Zh _ _ _ om];exact (a.block g' zE).trans (Zh _ _ _ this.2));have Y:z.cell? ⟨w.heap.size+1,3,Zn⟩=Zo (Zs N k O):=(by simp[World.cell?,f]);have ag:(z.alloc (Zc #[Zp (Zo ⟨kb,0,Zn⟩)] 82)).cell? ⟨w.heap.size+1,3,Zn⟩=Zo (Zs N k O):=(World.cell?_of_block (Zh _ _ _ (by show w.heap.size+1<_;omega))).trans Y))
   all_goals
    have HF:Hid (li S (w.heap.size+1) n (Kd.kids t) s (Zs na (Kd.names t).length l) w1 (k+1) (Zs (Zo ⟨g,0,Zn⟩) (k+1) cap) (w3.setCell ⟨w.heap.size+1,3,Zn⟩ (Zs (Zo ⟨g,0,Zn⟩) (k+1) cap))):=
     Do (W:=(wr.alloc (Zc #[Zi Zk z0,Zs za zl zc,Zs ua ul uc] 31)).drew) HL.out A ai.out om (fun _=>rfl) zS ⟨rfl,rfl,rfl⟩ HX.out HK.out a J m u V
    clear m u V J a ad Y ag ab T K f
    go_wp2
    go_roundw
    case rel=>exact⟨k+1,_,om,by go_num,HF.out⟩
    case measure=>simp[intOf];omega
  ·have ac:k=(Kd.kids t).length:=by omega
   have B:=am.keep (a6 c (fun b p=>by have:=D b p;omega)) (fun _ h=>h);have y:Hid (li S (w.heap.size+1) n (Kd.kids t) s (Zs na (Kd.names t).length l) w1 (Kd.kids t).length (Zs N k O) wr):=by have:=HL.out;rw[ac]at this ⊢;exact this
   clear ac r HX HK HL;by_cases h5:s=5
   ·subst h5;have HC:Hid (Calls Tryz.prog 151 _ _ _):=p9 S (Kd.names t) (Zs na (Kd.names t).length l) wr B (fun b p=>by have:=D b p;omega);go_wp2_with fail;refine HC.out.mono ?_;rintro e z ⟨pv,rfl,I,a⟩;have F:=a.size;obtain⟨mb,rfl,aq,-⟩:=id I;have f:=(a.block (w.heap.size+1) hX).trans y.out.box;have aw:z.frozen? ⟨w.heap.size+1,2,Zn⟩=false:=by simp[World.frozen?,f]
    have ar:z.cell? ⟨w.heap.size+1,2,Zn⟩=Zo (.map Zn):=by simp[World.cell?,f]
    have qs:∀b,b≠w.heap.size+1->(z.setCell ⟨w.heap.size+1,2,Zn⟩ (.map (Zo mb))).heap[b]?=z.heap[b]?:=fun b p=>Below.heap_setCell _ _ _ _ p;have HP:Hid (pP S (n+1) t w (Zr (Zp (Zo ⟨w.heap.size+1,0,Zn⟩))) (z.setCell ⟨w.heap.size+1,2,Zn⟩ (.map (Zo mb)))):=by
     refine xJ (pv:=.map (Zo mb)) HS.out y.out D E (by unfold maxLen;omega) ?_ (by simpa using F) (fun b p al=>?_) ⟨a.os,a.tape,a.output⟩ B (fun _=>I.keep (fun b p=>qs b om) (fun b p=>⟨om,by simpa using p.2⟩));·simp[World.setCell,Array.getElem?_modify,f]
     ·rw[qs b al];exact a.block b p
    clear HC I a f qs y B;go_wp2;go_ret;exact HP.out
   ·have ay:(s==5)=false:=by simpa using h5
    have HP:Hid (pP S (n+1) t w (Zr (Zp (Zo ⟨w.heap.size+1,0,Zn⟩))) wr):=
     xJ HS.out y.out D E (by unfold maxLen;omega) y.out.box (Nat.le_refl _) (fun _ _ _=>rfl) ⟨rfl,rfl,rfl⟩ B (fun h=>absurd h h5)
    clear y B h5;go_wp2;go_ret;exact HP.out
theorem xL:∀n,sE n:=by
 intro n;induction n with
 | zero=>intro S t c0 c1 c2 d w a;exact a.elim
 | succ n b=>exact Dq n b
def EM(S:Nat->Prop)(n:Nat)(t:K n)(w:Zw)(e:Ending)(w':Zw):Prop:=
 Bw w w' /\ ((gV n t=true/\∃v,e=Zr (Zu #[v,.bool true])/\d8 (fun b=>S b∨(w.heap.size<=b/\b<w'.heap.size)) w' n t v)∨(gV n t=false/\e=Zr (Zu #[Zp Zn,.bool false])))
theorem o7 (n:Nat) (S:Nat->Prop) (t:K n) (c0 c1 c2:Zv) (w:Zw) (o:a8 S w n t c0 c1 c2) (E:Bd S w) :
  Calls Tryz.prog 80 #[.agg #[c0,c1,c2]] w (EM S n t w):=by
 obtain⟨u,A,r,B,y,s,z,rfl,rfl,rfl⟩:=o.shape;have i:=(Below.refl w.heap.size w).alloc (Nat.le_refl _) (Zc #[Zi Zk u,Zs A r B,Zs y s z] 31);have l:=jX.new w (Zi Zk u) (Zs A r B) (Zs y s z) 31;obtain⟨d,f⟩:=o.step E i;clear o;go_in;go_wp2_with fail;refine (xG n S t _ _ _ _ d f).mono ?_;rintro e w1 ⟨rfl,c⟩;have a:=b4 i zS c;obtain⟨m,k⟩:=d.step f c;obtain⟨J,I,H⟩:=l.keep c;have C:=a.size;clear i c l d f;cases hok:gV n t with
 | false=>have q:Hid (EM S n t w (Zr (Zu #[Zp Zn,.bool false])) w1):=⟨a,.inr ⟨hok,rfl⟩⟩;clear hok;go_wp2;go_ret2;exact q.out
 | true=>
  have p:Hid (gV n t=true):=hok;simp only[gV,Bool.and_eq_true,decide_eq_true_eq]at hok;have x:Hid (Calls Tryz.prog 114 _ _ _):=xL n S t _ _ _ 1 w1 m k hok.1 hok.2;clear hok m k;go_wp2_with fail;refine x.out.mono ?_;rintro e F ⟨j,v,rfl,g⟩;obtain⟨D,rfl,-⟩:=id g.ptr;have q:Hid (EM S n t w (Zr (Zu #[Zp (Zo ⟨D,0,Zn⟩),.bool true])) F):=
   ⟨b4 a a.size j,.inl ⟨p.out,_,rfl,g.keep (fun _ _=>rfl) (fun b G=>G.elim .inl (fun h=>.inr ⟨om,h.2⟩))⟩⟩
  clear j g x;go_wp2;go_ret2;exact q.out
end Go.Proofs.YtcfojmaccikgeaaGreatDoor
