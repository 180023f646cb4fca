import Derived.Test.YtcfojmaccikgeaaGreatDoorB10
import Derived.Deep.RegionLaw
open Go.Value renaming slice→Zs,int→Zi,pointer→Zp,tuple→Zu
open Go.IntKind renaming i64→Zk
open Go.Ending renaming returned→Zr
open Go.Obj renaming cells→Zc
open Option renaming none→Zn,some→Zo
open Go renaming World→Zw,Value→Zv
open Go.RowKit.Below renaming heap_alloc→Zh
namespace Go.Proofs.YtcfojmaccikgeaaGreatDoor
set_option maxRecDepth 100000
set_option maxHeartbeats 16000000
open Go.RowKit Go.WideMaps Go.Maps
variable {S S':ZP} {w w':Zw} {v:Zv}
def jw(l:List ZN):Nat->DataW Unit
 | 0=>.map []
 | k+1=>(jw l k).put (.string (l.getD k ByteArray.empty).data.toList) (.lit (.int Zk k))
def jG(S:ZP)(w:Zw)(l:List ZN)(v:Zv):Prop:=
 ∃a,v=.map (Zo a)/\S a/\w.ownsMap Tryz.prog 9 (plainElem Tryz.prog 3) a l.length (jw l l.length)
theorem jG.keep{l:List ZN}(h:jG S w l v)(j:jn S w w')(i:∀b,S b->S' b):jG S' w' l v:=by obtain⟨c,rfl,d,e,a,f,g⟩:=h;exact⟨c,rfl,i c d,e,a,by rw[j c d];exact f,g⟩
def b9(S:ZP)(w:Zw):(n:Nat)->K n->Zv->Prop
 | 0,_,_=>False
 | n + 1, t, v => ∃ b c d a, v = Zp (Zo ⟨b, 0, Zn⟩) /\ S b /\ w.heap[b]? = Zo (Zc #[Zi Zk (Kd.sort t), c, d, a] 118 (0, 0)) /\ fL S w (Kd.names t) c /\
   (Kd.sort t=5->jG S w (Kd.names t) d)/\lx S w (b9 S w n) (Kd.kids t) a
theorem b9.keep(d:jn S w w')(c:∀b,S b->S' b):∀ {n:Nat} {t:K n} {v:Zv},b9 S w n t v->b9 S' w' n t v:=by
 intro n;induction n with
 | zero=>intro t v h;exact h.elim
 | succ n m=>intro t v h;obtain⟨b,p,q,o,k,e,a,i,j,g⟩:=h;exact⟨b,p,q,o,k,c b e,by rw[d b e];exact a,i.keep d c,fun f=>(j f).keep d c,g.keep d c fun _ _ _ l=>m l⟩
theorem b9.ptr{n:Nat}{t:K n}(h:b9 S w n t v):∃b,v=Zp (Zo ⟨b,0,Zn⟩)/\S b:=by
 cases n with
 | zero=>exact h.elim
 | succ n=>obtain⟨b,e,f,d,c,a,-⟩:=h;exact⟨b,c,a⟩
theorem Tryz.skeyed:Keyed Tryz.prog 9:=string_keyed Tryz.underlying9
theorem p9 (S:ZP) (l:List ZN) (v:Zv) (w:Zw) (H:fL S w l v) (F:Bd S w) :
  Calls Tryz.prog 151 #[v] w fun e z=>∃A,e=Zr A/\jG (fun b=>w.heap.size<=b/\b<z.heap.size) z l A/\Bw w z:=by
 obtain⟨J,cap,rfl,q,x,u⟩:=H;have I:∀(m:Int)(w:Zw),(Instr.makeMap 115 (Zo (Zi Zk m))).run Tryz.prog w=.ok (.map (Zo w.heap.size)) (w.alloc (.map #[] 0)):=by intro m w;simp[Instr.makeMap,go_sem]
 unfold maxLen at q;go_in;go_wp2;go_loopw [11] (fun i wr=>∃k:Nat,k<=l.length/\i=Zi Zk k/\wr.ownsMap Tryz.prog 9 (plainElem Tryz.prog 3) w.heap.size k (jw l k)/\Bw w wr) (fun i _=>l.length-(intOf i).toNat);case atStart=>exact⟨0,Nat.zero_le _,rfl,World.ownsMap_made _ _ _ _,gx _ _⟩
 case round=>
  obtain⟨k,K,rfl,a,c⟩:=hrel;by_cases g:k<l.length
  ·obtain⟨b,off,rfl,t,f⟩:=u (by intro h;rw[h]at g;simp at g);have f0:=kC c (f k g) (F b t);have r:=x l[k] (List.getElem_mem g);have C:Hid (l.getD k ByteArray.empty=l[k]):=by show _=_;simp[List.getD,g]
   have o:keyOf Tryz.prog 9 (.string l[k])=Zo (.string l[k].data.toList):=keyOf_string_mk Tryz.underlying9 r;have y:(Lit.int Zk (k:Int)).wf=true:=by
    have e:wrap64 (k:Int)=(k:Int):=by unfold wrap64;omega
    have h:=wrap64_wf (k:Int);rwa [e]at h
   clear u x f r;generalize l[k]=s at *;go_wp2_with (first
    | (at_mapUpdate;refine wpList_mapUpdate_own _ rfl _ _ _ 115 rfl 9 3 Tryz.skeyed Tryz.underlying115 _ w.heap.size k _ rfl a (by unfold maxLen;omega) _ _ _ rfl rfl o _ [] (plainElem_int Tryz.underlying3 y) ?_)
    | go_in)
   intro w1 n d;have D:Hid (w1.ownsMap Tryz.prog 9 (plainElem Tryz.prog 3) w.heap.size (k+1) (jw l (k+1))):=by show World.ownsMap _ _ _ _ _ _ _;rw[jw,C.out];exact n
   have E:=c.grown d c.size (fun j G=>by cases G;exact Nat.le_refl _);clear n d a;go_wp2;go_roundw;case rel=>exact⟨k+1,om,by go_num,D.out,E⟩
   case measure=>simp[intOf];omega
  ·have p:k=l.length:=by omega
   have B:Hid (jG (fun b=>w.heap.size<=b/\b<wr.heap.size) wr l (.map (Zo w.heap.size))):=by rw[p]at a;exact⟨_,rfl,⟨Nat.le_refl _,a.lt⟩,a⟩
   clear p u x a;go_wp2;go_ret;exact⟨_,rfl,B.out,c⟩
end Go.Proofs.YtcfojmaccikgeaaGreatDoor
namespace Go.Proofs.YtcfojmaccikgeaaGreatDoor
set_option maxRecDepth 100000
set_option maxHeartbeats 16000000
open Go.RowKit Go.WideMaps Go.Maps
variable {S:ZP} {M n k:Nat} {s:Int} {nv v:Zv} {w1 wr:Zw}
theorem Tryz.info_pk:(Tryz.prog.info? 82).map (fun i=>(i.zero,i.size,i.bytes))=Zo (Zo (Zp Zn),1,8):=by kernel_rfl
structure ll(S:ZP)(M n:Nat)(ks:List (K n))(s:Int)(nv:Zv)(w1:Zw)(k:Nat)(v:Zv)(wr:Zw):Prop where
 below:Below M w1 wr
 box:wr.heap[M]?=Zo (Zc #[Zi Zk s,nv,.map Zn,v] 118 (0,0))
 row:∃xs:List Zv,wr.ownsRow (M+1) 82 1 v k xs/\∀j (h:j<ks.length) (hx:j<xs.length),b9 (fun b=>S b∨(M+1<=b/\b<wr.heap.size/\v.ownBlock≠Zo b)) wr n ks[j] xs[j]
theorem ll.lt{a:List (K n)}(h:ll S M n a s nv w1 k v wr):M<wr.heap.size:=(Array.getElem?_eq_some_iff.1 h.box).1
theorem DK {w:List (K n)} {W p i:Zw} {g cap:Nat} {B:Zv} {xs:List Zv} {box one:Obj} (h:ll S M n w s nv w1 k v wr) (hk:k<w.length) (T:∀ b,S b->b<M) (_hM:M<=w1.heap.size)
  (X:∀b:Nat,W.heap[b]?=(wr.alloc box).heap[b]?) (Y:W.heap.size=wr.heap.size+1) (q:W.os=wr.os/\W.tape=wr.tape/\W.output=wr.output)
  (o:wr.ownsRow (M+1) 82 1 v k xs) (N:∀j (h:j<w.length) (U:j<xs.length),b9 (fun b=>S b∨(M+1<=b/\b<wr.heap.size/\v.ownBlock≠Zo b)) wr n w[j] xs[j])
  (d:Bw W p) (G:b9 (fun b=>S b∨(W.heap.size<=b/\b<p.heap.size)) p n w[k] B)
  (l:i.ownsRow (M+1) 82 1 (Zs (Zo ⟨g,0,Zn⟩) (k+1) cap) (k+1) (xs++[B])) (c:(p.alloc one).grownBy i v.ownBlock) (E:v.ownBlock=Zo g∨g=p.heap.size+1) :
  ll S M n w s nv w1 (k+1) (Zs (Zo ⟨g,0,Zn⟩) (k+1) cap) (i.setCell ⟨M,3,Zn⟩ (Zs (Zo ⟨g,0,Zn⟩) (k+1) cap)):=by
 have H:=h.lt;have ab:=d.size;have O:=c.size;simp at O;have f:∀b,v.ownBlock=Zo b->M+1<=b/\b<wr.heap.size:=fU o;have L:xs.length=k:=by simpa using o.1
 have P:∀b,b<p.heap.size->v.ownBlock≠Zo b->i.heap[b]?=p.heap[b]?:=fun b a I=>by rw[c.block b zE (fun e=>I e.symm),Zh _ _ _ a]
 have C:∀b,b<wr.heap.size->v.ownBlock≠Zo b->i.heap[b]?=wr.heap[b]?:=fun b a J=>by rw[P b om J,d.block b om,X,Zh _ _ _ a]
 have x:∀b,b≠M->(i.setCell ⟨M,3,Zn⟩ (Zs (Zo ⟨g,0,Zn⟩) (k+1) cap)).heap[b]?=i.heap[b]?:=fun b a=>Below.heap_setCell _ _ _ _ a;have u:(i.setCell ⟨M,3,Zn⟩ (Zs (Zo ⟨g,0,Zn⟩) (k+1) cap)).heap.size=i.heap.size:=zS;have D:v.ownBlock≠Zo M:=fun e=>by have:=f M e;omega
 have t:=(C M H D).trans h.box;have m:∀b,v.ownBlock≠Zo b->b<p.heap.size->(Value.slice (Zo ⟨g,0,Zn⟩) (k+1) cap).ownBlock≠Zo b:=by
  intro b V h2 e;have e:g=b:=by simpa [Value.ownBlock] using e
  rcases E with R|R;·exact V (by rw[R,e])
  ·omega
 refine⟨⟨?_,?_,?_,by rw[u];have:=h.below.size;omega,fun b a=>?_⟩,?_,xs++[B],?_,fun j Z U=>?_⟩;·show i.os=w1.os;rw[c.os];exact d.os.trans (q.1.trans h.below.os)
 ·show i.tape=w1.tape;rw[c.tape];exact d.tape.trans (q.2.1.trans h.below.tape)
 ·show i.output=w1.output;rw[c.output];exact d.output.trans (q.2.2.trans h.below.output)
 ·rw[x b om,C b om (fun e=>by have:=f b e;omega)];exact h.below.block b a
 ·simp[World.setCell,Array.getElem?_modify,t]
 ·exact gh l fun Q F=>x Q (by have:=fU l Q F;omega)
 ·by_cases aa:j<k
  ·have A:j<xs.length:=by omega
   rw[List.getElem_append_left A];refine (N j Z A).keep (fun b a=>?_) (fun b a=>?_)
   ·rcases a with a|⟨y,d,r⟩;·have:=T b a;rw[x b om,C b om (fun e=>by have:=f b e;omega)]
    ·rw[x b om,C b d r]
   ·rcases a with a|⟨y,d,r⟩;·exact .inl a
    ·exact .inr ⟨y,by rw[u];omega,m b r om⟩
  ·have z:j=k:=by simp at U;omega
   subst z;have:(xs++[B])[j]=B:=by simp[<- L]
   rw[this];refine G.keep (fun b a=>?_) (fun b a=>?_)
   ·rcases a with a|a;·have:=T b a;rw[x b om,P b om (fun e=>by have:=f b e;omega)]
    ·rw[x b om,P b a.2 (fun e=>by have:=f b e;omega)]
   ·rcases a with a|a;·exact .inl a
    ·exact .inr ⟨om,by rw[u];omega,m b (fun e=>by have:=f b e;omega) a.2⟩
theorem Ct{d:Int}(l:List (K n))(h:l.all (fun x=>fM n x d)=true):l.length<=b4 (fun x=>fR n x) l:=by
 induction l with
 | nil=>simp
 | cons x r a=>simp only[List.all_cons,Bool.and_eq_true]at h;have b:=sV n x d h.1;have c:=a h.2;simp only[b4,List.length_cons];omega
def pM(S:ZP)(n:Nat)(t:K n)(w:Zw)(e:Ending)(w':Zw):Prop:=
 Bw w w' /\ ∃v,e=Zr v/\b9 (fun b=>S b∨(w.heap.size<=b/\b<w'.heap.size)) w' n t v
def sI(n:Nat):Prop:=∀(S:ZP)(t:K n)(c0 c1 c2:Zv)(d:Int)(w:Zw),a8 S w n t c0 c1 c2->(Bd S w)->fM n t d=true->fR n t<=40 ->
 Calls Tryz.prog 114 #[.agg #[c0,c1,c2]] w (pM S n t w)
theorem yY {w w':Zw} {t:K (n+1)} {pv:Zv} (u:Kd.sort t=s) (f:ll S (w.heap.size+1) n (Kd.kids t) s nv w1 (Kd.kids t).length v wr) (l:Bd S w) (e:Bw w w1)
  (y:(Kd.kids t).length<=maxLen) (j:w'.heap[w.heap.size+1]?=Zo (Zc #[Zi Zk s,nv,pv,v] 118 (0,0))) (C:wr.heap.size<=w'.heap.size)
  (k:∀b:Nat,b<wr.heap.size->b≠w.heap.size+1->w'.heap[b]?=wr.heap[b]?) (q:w'.os=wr.os/\w'.tape=wr.tape/\w'.output=wr.output) (A:fL S wr (Kd.names t) nv)
  (B:s=5->jG (fun b=>w.heap.size<=b/\b<w'.heap.size) w' (Kd.names t) pv):pM S (n+1) t w (Zr (Zp (Zo ⟨w.heap.size+1,0,Zn⟩))) w':=by
 have z:=f.lt;obtain⟨F,c,r⟩:=f.row;have E:=e.size;refine⟨⟨q.1.trans (f.below.os.trans e.os),q.2.1.trans (f.below.tape.trans e.tape),q.2.2.trans (f.below.output.trans e.output),om,fun b a=>?_⟩,_,rfl,w.heap.size+1,nv,pv,v,rfl,.inr ⟨om,om⟩,by rw[u];exact j,?_,fun x=>(B (by rw[<- u];exact x)).keep (fun _ _=>rfl) (fun b a=>.inr a),?_⟩;·rw[k b om om,f.below.block b om];exact e.block b a
 ·exact A.keep (fun b a=>k b (by have:=l b a;omega) (by have:=l b a;omega)) (fun b a=>.inl a)
 ·have d:=gh (w':=w') c (fun g m=>k g (fU c g m).2 (by have:=fU c g m;omega));refine nB d y (fun g m=>.inr ?_) (fun i hi D=>?_);·have:=fU d g m;omega
  ·refine (r i hi D).keep (fun b a=>?_) (fun b a=>?_)
   ·rcases a with a|⟨o,h,p⟩;·exact k b (by have:=l b a;omega) (by have:=l b a;omega)
    ·exact k b h om
   ·rcases a with a|⟨o,h,p⟩;·exact .inl a
    ·exact .inr ⟨om,om⟩
theorem DL(n:Nat)(hn:sI n):sI (n+1):=by
 intro S t c0 c1 c2 d w ht C hg hc;obtain⟨rfl,-,h3,h4⟩:=ht;obtain⟨na,m,rfl,-,-,-⟩:=id h3;obtain⟨L,M,rfl,X,-⟩:=id h4;simp only[fM,Bool.and_eq_true]at hg;have av:(Kd.kids t).length<=40:=by have:=Ct (Kd.kids t) hg.2;simp only[fR]at hc;omega
 have P:Hid (∀k (h:k<(Kd.kids t).length),fM n (Kd.kids t)[k] (d+1)=true/\fR n (Kd.kids t)[k]<=40):=by intro k h;refine⟨List.all_eq_true.1 hg.2 _ (List.getElem_mem h),?_⟩;have:=gK (fun x=>fR n x) (Kd.kids t) _ (List.getElem_mem h);simp only[fR]at hc;omega
 clear hg hc;unfold maxLen at X;generalize hs:Kd.sort t=s at *;have HS:Hid (Kd.sort t=s):=hs;clear hs;have F:Bw w ((w.alloc (Zc #[Zi Zk s,Zs na (Kd.names t).length m,Zs L (Kd.kids t).length M] 31)).alloc (Zc #[Zi Zk s,Zs na (Kd.names t).length m,.map Zn,Zs Zn 0 0] 118)):=
  (gx _ _).alloc zS _
 have ah:=h3.keep (a6 F C) (fun _ h=>h);have ai:=h4.keepK (a6 F C) (fun _ h=>h);have T:((w.alloc (Zc #[Zi Zk s,Zs na (Kd.names t).length m,Zs L (Kd.kids t).length M] 31)).alloc (Zc #[Zi Zk s,Zs na (Kd.names t).length m,.map Zn,Zs Zn 0 0] 118)).heap[w.heap.size+1]? =
   Zo (Zc #[Zi Zk s,Zs na (Kd.names t).length m,.map Zn,Zs Zn 0 0] 118 (0,0)):=by
  have:=heap_alloc_new (w.alloc (Zc #[Zi Zk s,Zs na (Kd.names t).length m,Zs L (Kd.kids t).length M] 31)) (Zc #[Zi Zk s,Zs na (Kd.names t).length m,.map Zn,Zs Zn 0 0] 118)
  simpa using this
 have k0:((w.alloc (Zc #[Zi Zk s,Zs na (Kd.names t).length m,Zs L (Kd.kids t).length M] 31)).alloc (Zc #[Zi Zk s,Zs na (Kd.names t).length m,.map Zn,Zs Zn 0 0] 118)).cell? ⟨w.heap.size,0,Zn⟩=Zo (Zi Zk s):=by simp[go_sem]
 have k1:((w.alloc (Zc #[Zi Zk s,Zs na (Kd.names t).length m,Zs L (Kd.kids t).length M] 31)).alloc (Zc #[Zi Zk s,Zs na (Kd.names t).length m,.map Zn,Zs Zn 0 0] 118)).cell? ⟨w.heap.size,1,Zn⟩=Zo (Zs na (Kd.names t).length m):=by simp[go_sem]
 have ap:((w.alloc (Zc #[Zi Zk s,Zs na (Kd.names t).length m,Zs L (Kd.kids t).length M] 31)).alloc (Zc #[Zi Zk s,Zs na (Kd.names t).length m,.map Zn,Zs Zn 0 0] 118)).heap.size=w.heap.size+1+1:=zS;obtain⟨_,_,al,-,u⟩:=ai;cases al
 clear h3 h4;go_in;go_wp2_with fail;generalize ((w.alloc (Zc #[Zi Zk s,Zs na (Kd.names t).length m,Zs L (Kd.kids t).length M] 31)).alloc (Zc #[Zi Zk s,Zs na (Kd.names t).length m,.map Zn,Zs Zn 0 0] 118))=w1 at *;have ag:Hid (∀b,S b->b<w.heap.size+1):=fun b p=>by have:=C b p;omega
 go_loopw [15] (fun i wr=>∃(k:Nat)(v:Zv),k<=(Kd.kids t).length/\i=Zi Zk k/\ll S (w.heap.size+1) n (Kd.kids t) s (Zs na (Kd.names t).length m) w1 k v wr) (fun i _=>(Kd.kids t).length-(intOf i).toNat);case atStart=>exact⟨0,Zs Zn 0 0,Nat.zero_le _,rfl,Below.refl _ _,T,[],World.ownsRow_nil _ _ _ _,fun j _ hx=>absurd hx (Nat.not_lt_zero _)⟩
 case round=>
  obtain⟨k,v,hk,rfl,H⟩:=hrel;obtain⟨xs,l,aa⟩:=H.row;obtain⟨N,O,rfl⟩:=mV l;have hX:=H.lt;have c:=H.below;have ax:=c.size;have HL:=a7 H;have Q:=a7 l;have HK:=a7 aa;have x3:wr.cell? ⟨w.heap.size+1,3,Zn⟩=Zo (Zs N k O):=by simp[World.cell?,H.box]
  have xf:∀o,wr.frozen? ⟨w.heap.size+1,o,Zn⟩=false:=fun o=>by simp[World.frozen?,H.box]
  have j0:=kC c k0 om;have j1:=kC c k1 om;clear H l aa;by_cases z:k<(Kd.kids t).length
  ·obtain⟨b,off,rfl,aj,D⟩:=u (by intro h;rw[h]at z;simp at z);obtain⟨y0,y1,y2,e0,e1,e2,hr⟩:=D k z;have au:=C b aj;have f0:=kC c e0 om;have f1:=kC c e1 om;have f2:=kC c e2 om;have q:=hr.keep (a6 c (fun b p=>by have:=C b p;omega)) (fun _ h=>h);obtain⟨z0,za,zl,zc,ua,ul,uc,rfl,rfl,rfl⟩:=q.shape;clear u D e0 e1 e2 hr;have Z:=(Below.refl wr.heap.size wr).alloc (Nat.le_refl _) (Zc #[Zi Zk z0,Zs za zl zc,Zs ua ul uc] 31);have q5:=q.keep (w':=(wr.alloc (Zc #[Zi Zk z0,Zs za zl zc,Zs ua ul uc] 31)).drew) (a6 Z.drew (fun b p=>by have:=C b p;omega)) (fun _ h=>h);have HC:Hid (Calls Tryz.prog 114 _ _ _):=hn S (Kd.kids t)[k] _ _ _ (d+1) _ q5 (fun b p=>by have:=C b p;simp;omega) (P.out k z).1 (P.out k z).2;obtain⟨i0,U,ab,ac,G⟩:=info_parts Tryz.info_pk;have E:Hid (_/\_/\_/\_):=⟨U,ab,ac,G⟩;clear U ab ac G q q5 Z;go_wp2_with fail;go_region_law (first
    | (refine step_append_lies _ (by rfl) (.tmp 23) (.tmp 26) 116 (by rfl) (w.heap.size+1+1) 82 i0 _ 1 8 Tryz.underlying116 E.out.1 E.out.2.1 E.out.2.2.1 E.out.2.2.2 rfl zC (Zs N k O) k xs (by rfl) Y ⟨A.heap.size,0,Zn⟩ 1 1 [Zp (Zo ⟨kb,0,Zn⟩)] (by rfl) rfl (World.news_of_block (heap_alloc_new A _)) (by simp[Value.oneCell']) zC (by unfold maxLen;omega) om zE (A.heap.size+1) zS ?_;intro g cap w3 l r R ao;have I:=((r.block (w.heap.size+1) zE (fun e=>by have:=fU Q.out _ e.symm;omega)).trans (Zh _ _ _ om)).trans f;have ae:w3.cell? ⟨w.heap.size+1,3,Zn⟩=Zo (Zs N k O):=(by simp[World.cell?,I]);have af:∀o,w3.frozen? ⟨w.heap.size+1,o,Zn⟩=false:=(fun o=>by simp[World.frozen?,I]))
    | (go_simp;go_at_call 114;refine HC.out.mono ?_;rintro e A ⟨a,kv,rfl,J⟩;obtain⟨kb,rfl,-⟩:=J.ptr;have aq:wr.heap.size+1<=A.heap.size:=(by have:=a.size;simpa using this);have f:=((a.block (w.heap.size+1) zE).trans (Zh _ _ _ om)).trans HL.out.box;have Y:=gh (w':=A.alloc (Zc #[Zp (Zo ⟨kb,0,Zn⟩)] 82)) Q.out (fun g' ak=>by have:=fU Q.out g' ak;rw[Zh _ _ _ om];exact (a.block g' zE).trans (Zh _ _ _ this.2));have ad:A.cell? ⟨w.heap.size+1,3,Zn⟩=Zo (Zs N k O):=(by simp[World.cell?,f]);have an:(A.alloc (Zc #[Zp (Zo ⟨kb,0,Zn⟩)] 82)).cell? ⟨w.heap.size+1,3,Zn⟩=Zo (Zs N k O):=(World.cell?_of_block (Zh _ _ _ (by show w.heap.size+1<_;omega))).trans ad))
   all_goals
    have HF:Hid (ll S (w.heap.size+1) n (Kd.kids t) s (Zs na (Kd.names t).length m) w1 (k+1) (Zs (Zo ⟨g,0,Zn⟩) (k+1) cap) (w3.setCell ⟨w.heap.size+1,3,Zn⟩ (Zs (Zo ⟨g,0,Zn⟩) (k+1) cap))):=
     DK (W:=(wr.alloc (Zc #[Zi Zk z0,Zs za zl zc,Zs ua ul uc] 31)).drew) HL.out z ag.out om (fun _=>rfl) zS ⟨rfl,rfl,rfl⟩ Q.out HK.out a J l r R
    clear l r R J a Y ad an ae af I f
    go_wp2
    go_roundw
    case rel=>exact⟨k+1,_,om,by go_num,HF.out⟩
    case measure=>simp[intOf];omega
  ·have V:k=(Kd.kids t).length:=by omega
   have B:=ah.keep (a6 c (fun b p=>by have:=C b p;omega)) (fun _ h=>h);have y:Hid (ll S (w.heap.size+1) n (Kd.kids t) s (Zs na (Kd.names t).length m) w1 (Kd.kids t).length (Zs N k O) wr):=by have:=HL.out;rw[V]at this ⊢;exact this
   clear V u Q HK HL;by_cases h5:s=5
   ·subst h5;have HC:Hid (Calls Tryz.prog 151 _ _ _):=p9 S (Kd.names t) (Zs na (Kd.names t).length m) wr B (fun b p=>by have:=C b p;omega);go_wp2_with fail;refine HC.out.mono ?_;rintro e A ⟨pv,rfl,K,a⟩;have G:=a.size;obtain⟨mb,rfl,aw,-⟩:=id K;have f:=(a.block (w.heap.size+1) hX).trans y.out.box;have az:A.frozen? ⟨w.heap.size+1,2,Zn⟩=false:=by simp[World.frozen?,f]
    have ay:A.cell? ⟨w.heap.size+1,2,Zn⟩=Zo (.map Zn):=by simp[World.cell?,f]
    have qs:∀b,b≠w.heap.size+1->(A.setCell ⟨w.heap.size+1,2,Zn⟩ (.map (Zo mb))).heap[b]?=A.heap[b]?:=fun b p=>Below.heap_setCell _ _ _ _ p;have HP:Hid (pM S (n+1) t w (Zr (Zp (Zo ⟨w.heap.size+1,0,Zn⟩))) (A.setCell ⟨w.heap.size+1,2,Zn⟩ (.map (Zo mb)))):=by
     refine yY (pv:=.map (Zo mb)) HS.out y.out C F (by unfold maxLen;omega) ?_ (by simpa using G) (fun b p am=>?_) ⟨a.os,a.tape,a.output⟩ B (fun _=>K.keep (fun b p=>qs b om) (fun b p=>⟨om,by simpa using p.2⟩));·simp[World.setCell,Array.getElem?_modify,f]
     ·rw[qs b am];exact a.block b p
    clear HC K a f qs y B;go_wp2;go_ret;exact HP.out
   ·have ar:(s==5)=false:=by simpa using h5
    have HP:Hid (pM S (n+1) t w (Zr (Zp (Zo ⟨w.heap.size+1,0,Zn⟩))) wr):=
     yY HS.out y.out C F (by unfold maxLen;omega) y.out.box (Nat.le_refl _) (fun _ _ _=>rfl) ⟨rfl,rfl,rfl⟩ B (fun h=>absurd h h5)
    clear y B h5;go_wp2;go_ret;exact HP.out
theorem yX:∀n,sI n:=by
 intro n;induction n with
 | zero=>intro S t c0 c1 c2 d w a;exact a.elim
 | succ n b=>exact DL n b
def EQ(S:ZP)(n:Nat)(t:K n)(w:Zw)(e:Ending)(w':Zw):Prop:=
 Bw w w' /\ ((gF n t=true/\∃v,e=Zr (Zu #[v,.bool true])/\b9 (fun b=>S b∨(w.heap.size<=b/\b<w'.heap.size)) w' n t v)∨(gF n t=false/\e=Zr (Zu #[Zp Zn,.bool false])))
theorem pe (n:Nat) (S:ZP) (t:K n) (c0 c1 c2:Zv) (w:Zw) (q:a8 S w n t c0 c1 c2) (C:Bd S w) :
  Calls Tryz.prog 80 #[.agg #[c0,c1,c2]] w (EQ S n t w):=by
 obtain⟨s,u,y,x,z,B,A,rfl,rfl,rfl⟩:=q.shape;have f:=(Below.refl w.heap.size w).alloc (Nat.le_refl _) (Zc #[Zi Zk s,Zs u y x,Zs z B A] 31);have m:=j8.new w (Zi Zk s) (Zs u y x) (Zs z B A) 31;obtain⟨i,d⟩:=q.step C f;clear q;go_in;go_wp2_with fail;refine (yA n S t _ _ _ _ i d).mono ?_;rintro e w1 ⟨rfl,c⟩;have a:=b5 f zS c;obtain⟨l,j⟩:=i.step d c;obtain⟨H,I,J⟩:=m.keep c;have E:=a.size;clear f c m i d;cases hok:gF n t with
 | false=>have p:Hid (EQ S n t w (Zr (Zu #[Zp Zn,.bool false])) w1):=⟨a,.inr ⟨hok,rfl⟩⟩;clear hok;go_wp2;go_ret2;exact p.out
 | true=>
  have o:Hid (gF n t=true):=hok;simp only[gF,Bool.and_eq_true,decide_eq_true_eq]at hok;have r:Hid (Calls Tryz.prog 114 _ _ _):=yX n S t _ _ _ 1 w1 l j hok.1 hok.2;clear hok l j;go_wp2_with fail;refine r.out.mono ?_;rintro e G ⟨k,v,rfl,g⟩;obtain⟨F,rfl,-⟩:=id g.ptr;have p:Hid (EQ S n t w (Zr (Zu #[Zp (Zo ⟨F,0,Zn⟩),.bool true])) G):=
   ⟨b5 a a.size k,.inl ⟨o.out,_,rfl,g.keep (fun _ _=>rfl) (fun b D=>D.elim .inl (fun h=>.inr ⟨om,h.2⟩))⟩⟩
  clear k g r;go_wp2;go_ret2;exact p.out
end Go.Proofs.YtcfojmaccikgeaaGreatDoor
