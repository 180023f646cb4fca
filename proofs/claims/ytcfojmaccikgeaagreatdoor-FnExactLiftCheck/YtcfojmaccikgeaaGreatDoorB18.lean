import Derived.Test.YtcfojmaccikgeaaGreatDoorB14
open Go.Value renaming slice→Zs,int→Zi,string→Zt,pointer→Zp,agg→Za,tuple→Zu,bool→Zb
open Go.IntKind renaming i64→Zk
open Go.Ending renaming returned→Zr
open Go.Obj renaming cells→Zc
open Option renaming none→Zn,some→Zo
open Go renaming World→Zw,Value→Zv
open Bool renaming and_eq_true→Zq
open List renaming eq_nil_of_length_eq_zero→Zz,mem_cons_self→Zj,take_succ_eq_append_getElem→ZA,mem_cons_of_mem→ZB
namespace Go.Proofs.YtcfojmaccikgeaaGreatDoor
open Go.RowKit Go.Proofs.Tryz
variable {w w' w1 w2 a c W w3:Zw} {b m n i i' i1 R X z:Nat} {o:Obj} {v:Zv} {k d:Int} {x s:ZN} {ns:List ZN} {bad1 bad':Bool} {e:TypeId} {xs:List Zv}
theorem II{o:Nat}(h:w.cell? ⟨b,o,Zn⟩=Zo v):b<w.heap.size:=
 Classical.byContradiction fun a=>by
  have:w.heap[b]?=Zn:=Array.getElem?_eq_none om
  simp[World.cell?,this]at h
def JD:Nat->Nat->List UInt8
 | 0,_=>[]
 | f+1,n=>if n=0 then [] else JD f (n / 10)++[UInt8.ofNat (48+n % 10)]
def J9(n:Nat):List UInt8:=JD n n
def mt(k:Int):ZN:=bs (109 :: J9 k.toNat)
structure gL where
 b:Nat
 o:Nat
 tx:Bool
def gL.at(s:gL):Addr:=⟨s.b,s.o,Zn⟩
def gL.val(s:gL)(k:Int):Zv:=if s.tx then Zt (mt k) else Zi Zk k
def ig:Zw->List gL->Int->Zw
 | w,[],_=>w
 | w,s :: r,k=>ig (w.setCell s.at (s.val k)) r (k+1)
theorem xM(L M:List gL):∀(w:Zw)(k:Int),ig w (L++M) k=ig (ig w L k) M (k+L.length):=by
 induction L with
 | nil=>intro w k;simp[ig]
 | cons a r b=>intro w k;simp only[List.cons_append,ig,b,List.length_cons];rw[show k+1+(r.length:Int)=k+((r.length+1:Nat):Int) by omega]
theorem vb(h:w.heap[b]?=w'.heap[b]?)(p:Addr)(v:Zv):(w.setCell p v).heap[b]?=(w'.setCell p v).heap[b]?:=by
 by_cases a:b=p.block;·subst a;simp[World.setCell,Array.getElem?_modify,h]
 ·rw[Below.heap_setCell _ _ _ _ a,Below.heap_setCell _ _ _ _ a];exact h
theorem us(L:List gL):∀ {w a:Zw} {b:Nat} (_:w.heap[b]?=a.heap[b]?) (k:Int),(ig w L k).heap[b]?=(ig a L k).heap[b]?:=by
 induction L with
 | nil=>intro w a b h k;exact h
 | cons s r c=>intro w a b h k;exact c (vb h _ _) _
structure lU(L:List gL)(k:Int)(w w':Zw):Prop where
 os:w'.os=w.os
 tape:w'.tape=w.tape
 output:w'.output=w.output
 size:w.heap.size<=w'.heap.size
 block:∀b:Nat,b<w.heap.size->w'.heap[b]?=(ig w L k).heap[b]?
theorem lU.refl(k:Int)(w:Zw):lU [] k w w:=⟨rfl,rfl,rfl,Nat.le_refl _,fun _ _=>rfl⟩
theorem lU.below{L:List gL}(h:lU L k w w1)(a:Bw w1 w2):lU L k w w2:=
 ⟨a.os.trans h.os,a.tape.trans h.tape,a.output.trans h.output,Nat.le_trans h.size a.size,fun b c=>(a.block b (Nat.lt_of_lt_of_le c h.size)).trans (h.block b c)⟩
theorem lU.trans{L M:List gL}(h:lU L k w w1)(a:lU M (k+L.length) w1 w2):lU (L++M) k w w2:=
 ⟨a.os.trans h.os,a.tape.trans h.tape,a.output.trans h.output,Nat.le_trans h.size a.size,fun b c=>by
  rw[a.block b (Nat.lt_of_lt_of_le c h.size),xM];exact us M (h.block b c) _⟩
structure xO(w w':Zw):Prop where
 int:∀b o x,w.cell? ⟨b,o,Zn⟩=Zo (Zi Zk x)->∃y,w'.cell? ⟨b,o,Zn⟩=Zo (Zi Zk y)
 str:∀b o x,w.cell? ⟨b,o,Zn⟩=Zo (Zt x)->∃y,w'.cell? ⟨b,o,Zn⟩=Zo (Zt y)
 sl:∀b o a l c,w.cell? ⟨b,o,Zn⟩=Zo (Zs a l c)->w'.cell? ⟨b,o,Zn⟩=Zo (Zs a l c)
 fz:∀b o,b<w.heap.size->w'.frozen? ⟨b,o,Zn⟩=w.frozen? ⟨b,o,Zn⟩
 size:w.heap.size<=w'.heap.size
theorem xO.refl(w:Zw):xO w w:=⟨fun _ _ x h=>⟨x,h⟩,fun _ _ x h=>⟨x,h⟩,fun _ _ _ _ _ h=>h,fun _ _ _=>rfl,Nat.le_refl _⟩
theorem xO.trans{b:Zw}(h:xO a b)(k:xO b c):xO a c:=by
 refine⟨fun b o x d=>?_,fun b o x d=>?_,fun b o _ _ _ d=>k.sl _ _ _ _ _ (h.sl _ _ _ _ _ d),fun b o f=>?_,Nat.le_trans h.size k.size⟩;·obtain⟨y,e⟩:=h.int b o x d;exact k.int b o y e
 ·obtain⟨y,e⟩:=h.str b o x d;exact k.str b o y e
 ·rw[k.fz b o (Nat.lt_of_lt_of_le f h.size),h.fz b o f]
theorem xO.below{b:Zw}(h:xO a b)(e:Bw b c):xO a c:=by
 refine h.trans ⟨fun f o x d=>?_,fun f o x d=>?_,fun f o _ _ _ d=>?_,fun f o g=>e.frozen (p:=⟨f,o,Zn⟩) g,e.size⟩;·exact⟨x,kC e d (II d)⟩
 ·exact⟨x,kC e d (II d)⟩
 ·exact kC e d (II d)
def gL.ok(s:gL)(w:Zw):Prop:=(if s.tx then ∃x,w.cell? s.at=Zo (Zt x) else ∃x,w.cell? s.at=Zo (Zi Zk x))/\w.frozen? s.at=false
theorem gL.ok_lt{s:gL}(h:s.ok w):s.b<w.heap.size:=by
 obtain⟨h,-⟩:=h;cases ht:s.tx with
 | true=>rw[ht]at h;obtain⟨x,a⟩:=h;exact II (o:=s.o) a
 | false=>rw[ht]at h;obtain⟨x,a⟩:=h;exact II (o:=s.o) a
theorem gL.ok_sim{s:gL}(h:s.ok w)(d:xO w w'):s.ok w':=by
 have c:=gL.ok_lt h;obtain⟨a,f⟩:=h;refine⟨?_,(d.fz s.b s.o c).trans f⟩;cases ht:s.tx with
 | true=>rw[ht]at a;obtain⟨x,e⟩:=a;exact d.str s.b s.o x e
 | false=>rw[ht]at a;obtain⟨x,e⟩:=a;exact d.int s.b s.o x e
theorem Co{s:gL}(h:s.ok w)(k:Int):xO w (w.setCell s.at (s.val k)):=by
 obtain⟨f,-⟩:=h;have other:∀b o v,s.at≠⟨b,o,Zn⟩->w.cell? ⟨b,o,Zn⟩=Zo v->(w.setCell s.at (s.val k)).cell? ⟨b,o,Zn⟩=Zo v:=fun b o v g d=>(World.cell?_setCell_other _ _ _ _ g).trans d;cases ht:s.tx with
 | true=>
  rw[ht]at f;obtain⟨u,c⟩:=f;have d:s.val k=Zt (mt k):=by simp[gL.val,ht]
  refine⟨fun b o x a=>?_,fun b o x a=>?_,fun b o _ _ _ a=>?_,fun b o _=>World.frozen?_setCell _ _ _ _,zS⟩;·exact⟨x,other b o _ (fun e=>by rw[<- e,c]at a;cases a) a⟩
  ·by_cases e:s.at=⟨b,o,Zn⟩;·rw[<- e]at a ⊢;exact⟨_,(World.cell?_setCell_same _ _ _ a).trans (by rw[d])⟩
   ·exact⟨x,other b o _ e a⟩
  ·exact other b o _ (fun e=>by rw[<- e,c]at a;cases a) a
 | false=>
  rw[ht]at f;obtain⟨u,c⟩:=f;have d:s.val k=Zi Zk k:=by simp[gL.val,ht]
  refine⟨fun b o x a=>?_,fun b o x a=>?_,fun b o _ _ _ a=>?_,fun b o _=>World.frozen?_setCell _ _ _ _,zS⟩
  ·by_cases e:s.at=⟨b,o,Zn⟩;·rw[<- e]at a ⊢;exact⟨_,(World.cell?_setCell_same _ _ _ a).trans (by rw[d])⟩
   ·exact⟨x,other b o _ e a⟩
  ·exact⟨x,other b o _ (fun e=>by rw[<- e,c]at a;cases a) a⟩
  ·exact other b o _ (fun e=>by rw[<- e,c]at a;cases a) a
theorem xB:∀(L:List gL){w:Zw}(_:∀s,s∈L->s.ok w)(k:Int),xO w (ig w L k):=by
 intro L;induction L with
 | nil=>intro w _ k;exact xO.refl w
 | cons s r c=>intro w h k;have a:=Co (h s (Zj ..)) k;exact a.trans (c (fun x b=>gL.ok_sim (h x (ZB _ b)) a) (k+1))
theorem lU.sim{L:List gL}(h:lU L k w w')(g:∀s,s∈L->s.ok w):xO w w':=by
 have e:=xB L g k;have f:∀b o,b<w.heap.size->w'.cell? ⟨b,o,Zn⟩=(ig w L k).cell? ⟨b,o,Zn⟩:=fun b o d=>World.cell?_of_block (w:=ig w L k) (w':=w') (a:=⟨b,o,Zn⟩) (h.block b d);have i:∀b o,b<w.heap.size->w'.frozen? ⟨b,o,Zn⟩=(ig w L k).frozen? ⟨b,o,Zn⟩:=fun b o d=>by simp only[World.frozen?,h.block b d]
 refine⟨fun b o x c=>?_,fun b o x c=>?_,fun b o _ _ _ c=>?_,fun b o d=>(i b o d).trans (e.fz b o d),h.size⟩;·rw[f b o (II c)];exact e.int b o x c
 ·rw[f b o (II c)];exact e.str b o x c
 ·rw[f b o (II c)];exact e.sl b o _ _ _ c
def Holds(w:Zw):List gL->Int->Prop
 | [],_=>True
 | s :: r,k=>w.cell? s.at=Zo (s.val k)/\Holds w r (k+1)
theorem xN(p:Addr):∀(L:List gL)(w:Zw)(k:Int),(∀s,s∈L->s.at≠p)->(ig w L k).cell? p=w.cell? p:=by
 intro L;induction L with
 | nil=>intro w k _;rfl
 | cons s r b=>intro w k h;rw[ig,b _ _ (fun x a=>h x (ZB _ a)),World.cell?_setCell_other _ _ _ _ (h s (Zj ..))]
theorem ut:∀(L:List gL)(w:Zw)(k:Int),(∀s,s∈L->s.ok w)->L.Pairwise (fun a b=>a.at≠b.at)->Holds (ig w L k) L k:=by
 intro L;induction L with
 | nil=>intro w k _ _;trivial
 | cons s r j=>
  intro w k h i;have c:=List.pairwise_cons.1 i;have g:=Co (h s (Zj ..)) k;refine⟨?_,j _ (k+1) (fun x f=>gL.ok_sim (h x (ZB _ f)) g) c.2⟩;rw[ig,xN _ _ _ _ (fun x f=>(c.1 x f).symm)];obtain⟨d,-⟩:=h s (Zj ..);cases ht:s.tx with
  | true=>rw[ht]at d;obtain⟨u,e⟩:=d;exact World.cell?_setCell_same _ _ _ e
  | false=>rw[ht]at d;obtain⟨u,e⟩:=d;exact World.cell?_setCell_same _ _ _ e
theorem Holds.keep:∀ {L:List gL} {k:Int},Holds w L k->(∀s,s∈L->w'.cell? s.at=w.cell? s.at)->Holds w' L k:=by
 intro L;induction L with
 | nil=>intro k _ _;trivial
 | cons s r c=>intro k h a;exact⟨(a s (Zj ..)).trans h.1,c h.2 (fun x b=>a x (ZB _ b))⟩
theorem ur:∀(L:List gL)(w:Zw)(k:Int),(∀s,s∈L->s.b≠b)->(ig w L k).heap[b]?=w.heap[b]?:=by
 intro L;induction L with
 | nil=>intro w k _;rfl
 | cons s r c=>intro w k h;rw[ig,c _ _ (fun x a=>h x (ZB _ a))];exact Below.heap_setCell _ _ _ _ (fun e=>h s (Zj ..) e.symm)
theorem lU.other{L:List gL}(h:lU L k w w')(c:b<w.heap.size)(a:∀s,s∈L->s.b≠b):w'.heap[b]?=w.heap[b]?:=(h.block b c).trans (ur L w k a)
theorem lU.holds{L:List gL}(h:lU L k w w')(c:∀s,s∈L->s.ok w)(d:L.Pairwise (fun a b=>a.at≠b.at)):Holds w' L k:=
 (ut L w k c d).keep (fun s e=>World.cell?_of_block (w:=ig w L k) (w':=w') (a:=s.at) (h.block s.b (gL.ok_lt (c s e))))
set_option maxRecDepth 100000
set_option maxHeartbeats 16000000
theorem Tryz.info_strO:(prog.info? 9).map (fun i=>(i.zero,i.size,i.bytes))=Zo (Zo (Zt ⟨#[]⟩),1,16):=by kernel_rfl
theorem qX(s:ZN)(w:Zw)(h:s.size<=10000):Calls prog 138 #[Zt s] w fun e c=>e=Zr (Zt s)/\Bw w c:=by have a:Hid (Calls prog 174 _ _ _):=Tryz.stringslite_Clone s w om;go_in;go_wp2_with fail;refine a.out.mono ?_;rintro e w1 ⟨rfl,b⟩;clear a;go_wp2;go_ret;exact⟨rfl,b⟩
theorem uG (S:ZP) (l:List ZN) (v:Zv) (w:Zw) (Z:fL S w l v) (Y:Bd S w) (N:l.length<=10000) (P:∀ s,s∈l->s.size<=10000) :
  Calls prog 88 #[v] w fun e T=>∃R,e=Zr R/\T.ownsRow w.heap.size 9 1 R l.length (l.map Zt)/\Bw w T:=by
 obtain⟨ao,cap,rfl,-,-,a⟩:=Z;obtain⟨i0,hi,o,p,r⟩:=info_parts Tryz.info_strO;have C:Hid (_/\_/\_/\_):=⟨hi,o,p,r⟩;have W:=a7 P;clear hi o p r P;go_in;go_wp2;go_loopw [3,8] (fun v i wr=>∃k:Nat,k<=l.length/\i=Zi Zk k/\wr.ownsRow w.heap.size 9 1 v k ((l.take k).map Zt)/\Bw w wr) (fun _ i _=>l.length-(intOf i).toNat);case atStart=>exact⟨0,Nat.zero_le _,rfl,World.ownsRow_nil _ _ _ _,Below.refl _ _⟩
 case round=>
  obtain⟨k,hk,rfl,j,c⟩:=hrel;obtain⟨H,I,rfl⟩:=mV j;have G:=c.size;have y:=a7 j;clear j;by_cases f:k<l.length
  ·obtain⟨b,off,rfl,E,A⟩:=a (by intro h;rw[h]at f;simp at f);have f0:=kC c (A k f) (Y b E);have K:Hid (Calls prog 138 _ _ _):=qX l[k] wr (W.out _ (List.getElem_mem f));have X:Hid ((l.take (k+1)).map Value.string=(l.take k).map Zt++[Zt l[k]]):=by show _=_;rw[ZA f,List.map_append];rfl
   clear a A;generalize l[k]=nm at *;go_wp2_with fail;refine K.out.mono ?_;rintro e B ⟨rfl,n⟩;have Q:=n.size;have t:Hid (B.ownsRow w.heap.size 9 1 (Zs H k I) k ((l.take k).map Zt)):=gh y.out (fun L F=>n.block L (fU y.out L F).2);have x:Hid (Bw w B):=c.trans (n.mono G);clear n f0 K;go_wp2_with (at_builtin;refine wpList_append_lies _ rfl (.tmp 12) (.tmp 15) 23 rfl w.heap.size 9 i0 _ 1 16 underlying23 C.out.1 C.out.2.1 C.out.2.2.1 C.out.2.2.2 rfl zC (Zs H k I) k ((l.take k).map Zt) rfl (t.out.alloc _) ⟨B.heap.size,0,Zn⟩ 1 1 [Zt nm] rfl rfl (World.news_of_block (heap_alloc_new B _)) (by simp[Value.oneCell']) zC (by unfold maxLen;omega) om zE (B.heap.size+1) zS ?_;intro g cap J m d z O;refine Hid.out ?_);refine Lib.hid ?_;have U:Hid (J.ownsRow w.heap.size 9 1 (Zs (Zo ⟨g,0,Zn⟩) (k+1) cap) (k+1) ((l.take (k+1)).map Zt)):=by show J.ownsRow _ _ _ _ _ _;rw[X.out];exact m
   have D:Hid (Bw w J):=(x.out.alloc om (Zc #[Zt nm] 9)).grown d zE (fun q hq=>(fU t.out q hq).1);clear m d z t y x;go_wp2;go_roundw;case rel=>exact⟨k+1,om,by go_num,U.out,D.out⟩
   case measure=>simp[intOf];omega
  ·have u:k=l.length:=by omega
   have V:Hid (wr.ownsRow w.heap.size 9 1 (Zs H k I) l.length (l.map Zt)):=by have M:=y.out;rw[u,List.take_length]at M;rw[u];exact M
   clear u a y;go_wp2;go_ret;exact⟨_,rfl,V.out,c⟩
theorem Eb{α:Type}(f:α->Nat)(l:List α)(x:α):b4 f (l++[x])=b4 f l+f x:=by
 induction l with
 | nil=>simp[b4]
 | cons a r b=>simp only[List.cons_append,b4,b];omega
def Ab(R:Nat)(s:ZN)(m:Nat)(w:Zw)(e:Ending)(w':Zw):Prop:=
 b8 R w w' /\ ((∃(k:K m)(c0 c1 c2:Zv),gd m s.data.toList=Zo (k,[])/\e=Zr (Za #[c0,c1,c2])/\a8 (fun b=>w.heap.size<=b/\b<w'.heap.size) w' m k c0 c1 c2) ∨
  ((∀k,gd m s.data.toList≠Zo (k,[]))/\e=.panicked lc))
theorem EI (m:Nat) (R:Nat) (s:ZN) (w:Zw) (h:Sc w R s 0) (T:s.size<=10000) (hm:s.size<m) :
  Calls prog 196 #[Zp (Zo ⟨R,0,Zn⟩)] w (Ab R s m w):=by
 have S:=h.lt;obtain⟨W,x⟩:=ii (w.alloc (Zc #[Zi Zk 0,Zs Zn 0 0,Zs Zn 0 0] 31));have V:W.heap.size=w.heap.size+1:=by rw[x];simp
 have E:Bw w W:=by rw[x];exact gx _ _
 have Q:Hid (W.heap[w.heap.size]?=Zo (Zc #[Zi Zk 0,Zs Zn 0 0,Zs Zn 0 0] 31 (0,0))):=by rw[x];exact heap_alloc_new _ _
 have c:Hid (gB R w W 0):=(gB.refl h).below E S;have D:Hid (Sc w R s 0):=h;have K:Hid (Calls prog 215 #[Zp (Zo ⟨R,0,Zn⟩)] W (lw R s 0 m W)):=F1 m R s 0 W (c.out.sc h) (Nat.zero_le _) T om;clear h;go_in;go_wp2_with fail;rw[<- x];clear x;refine K.out.mono ?_;rintro e w1 (⟨k,q,c0,c1,c2,u,O,y3,rfl,I,J⟩|⟨u,rfl,O⟩);case inr=>rw[List.drop_zero]at u;exact⟨rfl,c.out.near.trans O,.inr ⟨fun k e=>(by rw[u]at e;cases e),rfl⟩⟩
 rw[List.drop_zero]at u;obtain⟨z0,i,l,j,d,g,f,rfl,rfl,rfl⟩:=I.shape;have U:=J.near.size;have y:Bw w1 (w1.alloc (Zc #[Zi Zk z0,Zs i l j,Zs d g f] 31)):=gx _ _;have n:Hid (gB R W (w1.alloc (Zc #[Zi Zk z0,Zs i l j,Zs d g f] 31)) q):=J.below y om;have p:=j8.new w1 (Zi Zk z0) (Zs i l j) (Zs d g f) 31;have L:Hid (Calls prog 216 #[Zp (Zo ⟨R,0,Zn⟩)] (w1.alloc (Zc #[Zi Zk z0,Zs i l j,Zs d g f] 31)) _):=zP _ R s q ((c.out.trans n.out).sc D.out);have A:Hid (a8 (fun b=>W.heap.size<=b/\b<w1.heap.size) w1 m k (Zi Zk z0) (Zs i l j) (Zs d g f)/\gd m s.data.toList=Zo (k,s.data.toList.drop q)):=⟨I,u⟩;clear K u I J;go_wp2_with fail;refine L.out.mono ?_;rintro e t (⟨H,rfl,v2⟩|⟨H,rfl,v2⟩);case inr=>refine⟨rfl,(c.out.trans n.out).near.trans v2,.inr ⟨fun k' e=>?_,rfl⟩⟩;rw[A.out.2]at e;simp only[Option.some.injEq,Prod.mk.injEq]at e;have:=congrArg List.length e.2;simp at this;omega
 have G:=v2.near.size;simp only[World.size_alloc]at G;have C:∀o,t.cell? ⟨w1.heap.size,o,Zn⟩=(w1.alloc (Zc #[Zi Zk z0,Zs i l j,Zs d g f] 31)).cell? ⟨w1.heap.size,o,Zn⟩:=fun o=>World.cell?_of_block (a:=⟨w1.heap.size,o,Zn⟩) (v2.near.block w1.heap.size zS om);have k0:=(C 0).trans p.c0;have k1:=(C 1).trans p.c1;have k2:=(C 2).trans p.c2;have r:Hid (gB R W t q):=n.out.trans v2;have P:Hid (Ab R s m w (Zr (Za #[Zi Zk z0,Zs i l j,Zs d g f])) (iD t w.heap.size 0 (Zi Zk z0) (Zs i l j) (Zs d g f))):=by
  have N:∀b,b≠w.heap.size->(iD t w.heap.size 0 (Zi Zk z0) (Zs i l j) (Zs d g f)).heap[b]?=t.heap[b]?:=fun b h=>ia h;have M:(iD t w.heap.size 0 (Zi Zk z0) (Zs i l j) (Zs d g f)).heap.size=t.heap.size:=iU;have z:=(c.out.trans r.out).near;refine⟨⟨z.os,z.tape,z.output,by rw[M];exact z.size,fun b B F=>(N b om).trans (z.block b B F)⟩,.inl ⟨k,_,_,_,?_,rfl,?_⟩⟩;·rw[A.out.2,H,List.drop_of_length_le zS]
  ·refine A.out.1.keep (fun b B=>?_) (fun b B=>⟨om,by rw[M];omega⟩);rw[N b om,v2.near.block b zE om,Below.heap_alloc _ _ _ B.2]
 obtain⟨⟨X,Y,Z⟩,f0,f1,f2⟩:=jS ((r.out.near.block w.heap.size om om).trans Q.out);clear H v2 L A n r p y C;go_wp2_with fail;refine bodyPost_ret (v:=Za #[Zi Zk z0,Zs i l j,Zs d g f]) (by simp[results,results196,go_sem,X,Y,Z]) rfl ?_;exact P.out
theorem pX(s:ZN)(w:Zw):Calls prog 195 #[Zt s] w fun e a=>e=Zr (Zp (Zo ⟨w.heap.size,0,Zn⟩))/\a=w.alloc (Zc #[Zt s,Zi Zk 0] 288):=by go_in;go_wp2;go_ret;exact⟨rfl,rfl⟩
theorem Tryz.assert_yes(w:Zw):(Instr.typeAssert (.iface 284 (Za #[])) 20 284 true).run prog w=.ok (Zu #[Za #[],Zb true]) w:=by kernel_rfl
theorem Tryz.assert_nil(w:Zw):(Instr.typeAssert .nilIface 20 284 true).run prog w=.ok (Zu #[Za #[],Zb false]) w:=by kernel_rfl
theorem uE (w:Zw) :
  CallsD prog 214 #[] (.panicking [{ v:=.iface 284 (Za #[]),recovered:=false }]) w fun e c d=>
   e=Zr (Zu #[])/\c=.panicking [{ v:=.iface 284 (Za #[]),recovered:=true }]/\d=w:=by have a:=Tryz.assert_yes;refine callsD_of_wpS func214 rfl fun f cs b=>?_;apply wpS_seq;apply wpS_region;simp[wpOpsS,go_sem,recoverD,b,ntmps214,Exit.thenS];refine wpS_of_wp ?_;go_wp2;exact⟨rfl,_,rfl,Zu #[],by simp[results,results214],rfl,rfl,rfl⟩
theorem uD (w:Zw) :
  CallsD prog 214 #[] .returning w fun e c d=>e=Zr (Zu #[])/\c=.returning/\d=w:=by have b:=Tryz.assert_nil;refine callsD_of_wpS func214 rfl fun f cs a=>?_;apply wpS_seq;apply wpS_region;simp[wpOpsS,go_sem,recoverD,a,ntmps214,Exit.thenS];refine wpS_of_wp ?_;go_wp2;exact⟨rfl,_,by rw[<- a],Zu #[],by simp[results,results214],rfl,rfl,rfl⟩
def pr(R:Nat)(s:ZN)(m:Nat)(w:Zw)(e:Ending)(w':Zw):Prop:=
 b8 R w w' /\ ((∃(k:K m)(c0 c1 c2:Zv),gd m s.data.toList=Zo (k,[])/\e=Zr (Zu #[Za #[c0,c1,c2],Zb true])/\a8 (fun b=>w.heap.size<=b/\b<w'.heap.size) w' m k c0 c1 c2) ∨
  ((∀k,gd m s.data.toList≠Zo (k,[]))/\e=Zr (Zu #[Za #[Zi Zk 0,Zs Zn 0 0,Zs Zn 0 0],Zb false])))
theorem Ai (m:Nat) (R:Nat) (s:ZN) (w:Zw) (h:Sc w R s 0) (I:s.size<=10000) (H:s.size<m) :
  Calls prog 194 #[.func (.func 196) #[Zp (Zo ⟨R,0,Zn⟩)] #[]] w (pr R s m w):=by
 have G:=h.lt;obtain⟨W,g⟩:=ii (w.alloc (Zc #[Zi Zk 0,Zs Zn 0 0,Zs Zn 0 0] 31));have K:W.heap.size=w.heap.size+1:=by rw[g];simp
 have v:Bw w W:=by rw[g];exact gx _ _
 have D:Hid (W.heap[w.heap.size]?=Zo (Zc #[Zi Zk 0,Zs Zn 0 0,Zs Zn 0 0] 31 (0,0))):=by rw[g];exact heap_alloc_new _ _
 have c:Hid (gB R w W 0):=(gB.refl h).below v G;have r:Hid (Calls prog 196 #[Zp (Zo ⟨R,0,Zn⟩)] W (Ab R s m W)):=EI m R s W (c.out.sc h) I H;clear h;go_enter_defers func194,ntmps194;go_wp2_with fail;rw[<- g];clear g;refine r.out.mono ?_;rintro e w1 ⟨d,⟨k,c0,c1,c2,n,rfl,C⟩|⟨n,rfl⟩⟩
 ·obtain⟨z0,o,q,p,i,l,j,rfl,rfl,rfl⟩:=C.shape;have J:=d.size;obtain⟨⟨y,z,A⟩,f0,f1,f2⟩:=jS ((d.block w.heap.size om om).trans D.out);have t:Hid (pr R s m w (Zr (Zu #[Za #[Zi Zk z0,Zs o q p,Zs i l j],Zb true])) (iD w1 w.heap.size 0 (Zi Zk z0) (Zs o q p) (Zs i l j))):=by have F:∀b,b≠w.heap.size->(iD w1 w.heap.size 0 (Zi Zk z0) (Zs o q p) (Zs i l j)).heap[b]?=w1.heap[b]?:=fun b h=>ia h;have E:(iD w1 w.heap.size 0 (Zi Zk z0) (Zs o q p) (Zs i l j)).heap.size=w1.heap.size:=iU;have a:=c.out.near.trans d;exact⟨⟨a.os,a.tape,a.output,by rw[E];exact a.size,fun b u x=>(F b om).trans (a.block b u x)⟩,.inl ⟨k,_,_,_,n,rfl,C.keep (fun b u=>F b om) (fun b u=>⟨om,by rw[E];omega⟩)⟩⟩
  clear r n C d;go_wp2_with fail;refine leaves_cons (f:=214) (args:=#[]) zS (by simp[go_sem]) ?_;refine (uD _).mono ?_;rintro e L B ⟨rfl,rfl,rfl⟩;exact⟨Zu #[Za #[Zi Zk z0,Zs o q p,Zs i l j],Zb true],by simp[results,results194,go_sem,y,z,A],t.out⟩
 ·obtain⟨⟨y,z,A⟩,f0,f1,f2⟩:=jS ((d.block w.heap.size om om).trans D.out);have t:Hid (pr R s m w (Zr (Zu #[Za #[Zi Zk 0,Zs Zn 0 0,Zs Zn 0 0],Zb false])) w1):=⟨c.out.near.trans d,.inr ⟨n,rfl⟩⟩;clear r n d;refine leaves_cons (f:=214) (args:=#[]) zS (by simp[go_sem]) ?_;refine (uE _).mono ?_;rintro e L B ⟨rfl,rfl,rfl⟩;exact⟨Zu #[Za #[Zi Zk 0,Zs Zn 0 0,Zs Zn 0 0],Zb false],by simp[results,results194,go_sem,y,z,A],t.out⟩
theorem AW(s:ZN)(j:Nat):gC (fW s j)=true->j<s.size:=by intro h;exact Classical.byContradiction fun a=>by rw[oS s j om]at h;exact absurd h zC
theorem ue(l:List UInt8)(p:UInt8->Bool)(k:Nat)(h:∀x,x∈l.take k->p x=true)(a:p ((l.drop k).headD 0)=false):l.takeWhile p=l.take k:=by
 have b:∀c r,l.drop k=c :: r->p c=false:=by intro c r e;rw[e]at a;exact a
 conv=>lhs;rw[<- List.take_append_drop k l]
 exact mE _ _ h b
theorem Bj(s:ZN)(i k:Nat)(p:UInt8->Bool)(h:i+k<s.size)(b:∀x,x∈(s.data.toList.drop i).take k->p x=true)(c:p s[i+k]=true):∀x,x∈(s.data.toList.drop i).take (k+1)->p x=true:=by
 intro x a;have d:k<(s.data.toList.drop i).length:=zE;rw[ZA d]at a;rcases List.mem_append.1 a with a|a;·exact b x a
 ·rw[List.mem_singleton]at a;subst a;simpa [ByteArray.getElem_eq_getElem_data] using c
theorem Gc (w:Zw) (R:Nat) (s:ZN) (i:Nat) (bad:Bool) (h:jm w R s i bad) (K:s.size<=10000) (hi:i<=s.size) :
  Calls prog 179 #[Zp (Zo ⟨R,0,Zn⟩)] w fun e d=>e=Zr (Zt (bs ((s.data.toList.drop i).takeWhile gC)))/\b8 R w d /\
   jm d R s ((i+((s.data.toList.drop i).takeWhile gC).length:Nat):Int) bad/\i+((s.data.toList.drop i).takeWhile gC).length<=s.size:=by
 have c0:=h.cell0;have c1:=h.cell1;have c2:=h.cell2;go_in;go_wp2;go_loopw [9] (fun _ wr=>∃k:Nat,i+k<=s.size/\jm wr R s ((i+k:Nat):Int) bad/\b8 R w wr/\∀x,x∈(s.data.toList.drop i).take k->gC x=true) (fun _ wr=>s.size-atOf wr R);case atStart=>exact⟨0,om,h,b8.refl _ _,zS⟩
 case round=>
  obtain⟨k,t,l,o,b⟩:=hrel;have G:=l.cell0;have H:=l.cell1;have I:=l.cell2;have J:=l.free 1;have f:Hid (jm wr R s ((i+k:Nat):Int) bad/\b8 R w wr):=⟨l,o⟩;clear l o c0 c1 c2 h;generalize q:i+k=j at *;have p:Hid (∀m,Calls prog 177 #[Zp (Zo ⟨R,0,Zn⟩)] (wr.drewN m) fun e d=>e=Zr (Zi .u8 ((fW s j).toNat:Int))/\∃v,d=wr.drewN v):=fun m=>(tC (wr.drewN m) R s j bad (f.out.1.drewN m)).mono fun e d ⟨E,k,t⟩=>⟨E,m+k,by rw[t,World.drewN_drewN]⟩;have g:Hid (Calls prog 177 #[Zp (Zo ⟨R,0,Zn⟩)] wr fun e d=>e=Zr (Zi .u8 ((fW s j).toNat:Int))/\∃v,d=wr.drewN v):=p.out 0;have C:(0:Int)<=((fW s j).toNat:Int):=om;have D:((fW s j).toNat:Int)<=255:=by have:=(fW s j).toNat_lt;omega
  cases hnm:gC (fW s j) with
  | true=>
   have u:=AW s j hnm;have y:Hid (∀x,x∈(s.data.toList.drop i).take (k+1)->gC x=true):=Bj s i k gC om b (by rw[tB s j u]at hnm;simpa only[q] using hnm);have L:IntKind.i64.wrap ((j:Int)+1)=(j:Int)+1:=by rw[IntKind.wrap_i64];omega
   have a:(97<=((fW s j).toNat:Int)/\((fW s j).toNat:Int)<=122)∨(48<=((fW s j).toNat:Int)/\((fW s j).toNat:Int)<=57):=by simpa only[gC,decide_eq_true_eq] using hnm
   clear b hnm;generalize (fW s j).toNat=c at *;rcases a with ⟨r,z⟩|⟨r,z⟩
   ·go_wp2_with (go_at_call 177;(first|refine g.out.mono ?_|refine (p.out _).mono ?_);rintro e d ⟨rfl,nq,rfl⟩);have n:=fun nq=>((f.out.1.drewN nq).set1 ((j:Int)+1));go_roundw;case rel=>exact⟨k+1,om,by rw[show ((i+(k+1):Nat):Int)=(j:Int)+1 by omega];exact n _,(f.out.2.drewN _).trans (b8.set R 1 _ _),y.out⟩
    case measure=>rw[(n _).atOf,f.out.1.atOf];omega
   ·go_wp2_with (go_at_call 177;(first|refine g.out.mono ?_|refine (p.out _).mono ?_);rintro e d ⟨rfl,nq,rfl⟩);have n:=fun nq=>((f.out.1.drewN nq).set1 ((j:Int)+1));go_roundw;case rel=>exact⟨k+1,om,by rw[show ((i+(k+1):Nat):Int)=(j:Int)+1 by omega];exact n _,(f.out.2.drewN _).trans (b8.set R 1 _ _),y.out⟩
    case measure=>rw[(n _).atOf,f.out.1.atOf];omega
  | false=>
   have A:Hid ((s.data.toList.drop i).takeWhile gC=(s.data.toList.drop i).take k):=ue _ _ _ b (by rw[List.drop_drop,q];exact hnm);have B:Hid (s.extract i j=bs ((s.data.toList.drop i).take k)):=by show _=_;rw[<- q];exact s5 s i k
   have F:Hid (((s.data.toList.drop i).take k).length=k):=by show _=_;simp;omega
   have a:((fW s j).toNat:Int)<48∨(57<((fW s j).toNat:Int)/\((fW s j).toNat:Int)<97)∨122<((fW s j).toNat:Int):=by simp only[gC,decide_eq_false_iff_not]at hnm;omega
   clear b hnm;generalize (fW s j).toNat=c at *;rcases a with r|⟨r,z⟩|r;all_goals
    go_wp2_with (go_at_call 177;(first|refine g.out.mono ?_|refine (p.out _).mono ?_);rintro e d ⟨rfl,nq,rfl⟩)
    go_quiet (fail)
    go_wp2
    go_ret
    rw[A.out,F.out,q]
    exact⟨jQ B.out,(f.out.2.drewN _).drewN _,(f.out.1.drewN _).drewN _,t⟩
def vX(s:ZN)(L b c:Nat)(a:Bool):Prop:=
 (L=0/\c=b/\a=false)∨(¬L=0/\((gy [44] (s.data.toList.drop b)=Zo (s.data.toList.drop (b+1))/\b+1<=s.size/\c=b+1/\a=false)∨(gy [44] (s.data.toList.drop b)=Zn/\c=b/\a=true)))
def EO(s:ZN)(j i3:Nat)(b a:Bool):Prop:=
 (gy [58] (s.data.toList.drop j)=Zo (s.data.toList.drop (j+1))/\j+1<=s.size/\i3=j+1/\a=b)∨(gy [58] (s.data.toList.drop j)=Zn/\i3=j/\a=true)
def pJ(m n:Nat)(s:ZN)(i:Nat)(bad:Bool)(t:K m)(b:Nat)(a:Bool):Prop:=
 i<=b/\(a=false->bad=false/\i<b/\b<=s.size)/\(bad=false->b<=s.size+n)/\(bad=true->b=i) /\
  (∀(t0:K m) c,bad=false->s.data.toList.drop i=fI m t0++c->fM m t0 (7-(n:Int))=true->t=t0/\a=false/\b=i+(fI m t0).length)
def li(m n:Nat)(s:ZN)(i:Nat)(g:List ZN)(f:List (K m))(e:Nat)(b:Bool):Prop:=
 i<=e/\(b=false->i<e/\e<=s.size)/\e<=s.size+n/\f.length<=e+(if b=true then 1 else 0)/\g.length=f.length /\
  ∀(c:List ZN)(a:List (K m)) d,c.length=a.length->(∀x,x∈c->gj x=true)->s.data.toList.drop i=123 :: (fP (go c (a.map (fI m)))++125 :: d)->(∀k,k∈a->fM m k (7-(n:Int))=true) ->
   ∃k,k<=a.length/\f=a.take k/\g=c.take k/\b=false/\s.data.toList.drop e=jl (decide (k=0)) ((go c (a.map (fI m))).drop k)++125 :: d
theorem AR(h:gj x=true):∃c r,x.data.toList=c :: r/\gC c=true:=by
 have a:1<=x.size:=by simp only[gj,Zq,decide_eq_true_eq]at h;exact h.1.1.1
 cases hd:x.data.toList with
 | nil=>
  have b:x.data.toList.length=0:=by rw[hd];rfl
  have d:x.data.toList.length=x.size:=zS;omega
 | cons c r=>exact⟨c,r,rfl,od h c (by rw[hd];exact Zj ..)⟩
theorem vV(a:List ZN)(l:List (List UInt8))(k:Nat)(b:k<a.length)(c:k<l.length)(h:k<(go a l).length):(go a l)[k]=a[k].data.toList++58 :: l[k]:=by
 induction a generalizing l k with
 | nil=>simp at b
 | cons x r d=>
  cases l with
  | nil=>simp at c
  | cons y t=>
   cases k with
   | zero=>rfl
   | succ k=>simpa [go] using d t k (by simpa using b) (by simpa using c) (by simpa [go] using h)
theorem Av {D:List (K m)} {i3 i2:Nat} {j f:Bool} {t2:K m} (P:li m n s i ns D i' false) (F:¬ fW s i'=125) (E:vX s D.length i' i1 bad1)
  (y:EO s (i1+((s.data.toList.drop i1).takeWhile gC).length) i3 bad1 j) (V:pJ m n s i3 j t2 i2 f)
  (W:i1+((s.data.toList.drop i1).takeWhile gC).length<=s.size) :
  li m n s i (ns++[bs ((s.data.toList.drop i1).takeWhile gC)]) (D++[t2]) i2 f/\(if f=true then 0 else s.size+1-i2)<s.size+1-i':=by
 obtain⟨h1,J,h3,L,O,N⟩:=P;obtain⟨p1,I,Y,Z,p5⟩:=V;have J:=J rfl;have L:D.length<=i':=by simpa using L
 have S:i'<=i1:=by rcases E with ⟨-,h,-⟩|⟨-,⟨-,-,h,-⟩|⟨-,h,-⟩⟩<;>omega
 have T:i1<=i3/\i3<=s.size:=by rcases y with ⟨-,h,h',-⟩|⟨-,h,-⟩<;>omega
 refine⟨⟨om,fun h=>⟨om,(I h).2.2⟩,?_,?_,by simp[O],fun d a l t B Q M=>?_⟩,?_⟩
 ·cases j with
  | false=>exact Y rfl
  | true=>have:=Z rfl;omega
 ·rw[List.length_append,List.length_singleton];cases f with
  | false=>have:=(I rfl).2.1;simp;omega
  | true=>simp;omega
 ·obtain⟨k,hk,A,H,-,q⟩:=N d a l t B Q M;have U:D.length=k:=by rw[A,List.length_take];omega
  have X:(go d (a.map (fI m))).length=a.length:=by rw[iz _ _ (by simpa using t)];simp
  have w:k<a.length:=by refine Classical.byContradiction fun R=>F ?_;have:(go d (a.map (fI m))).drop k=[]:=List.drop_of_length_le om;rw[this]at q;unfold fW;rw[q];rfl
  have u:k<(go d (a.map (fI m))).length:=om;have v:k<d.length:=om;rw[List.drop_eq_getElem_cons u,vV _ _ _ v (by simpa using w) u,List.getElem_map,jl,List.append_assoc]at q;have g:bad1=false/\s.data.toList.drop i1=d[k].data.toList++58 :: (fI m a[k]++(jl false ((go d (a.map (fI m))).drop (k+1))++125 :: l)):=by
   by_cases p:k=0
   ·simp only[p,decide_true,if_true,List.append_assoc,List.cons_append]at q;rcases E with ⟨-,h,x⟩|⟨h,-⟩;·refine⟨x,?_⟩;rw[h,q];simp only[p]
    ·exact absurd om h
   ·simp only[p,decide_false,Bool.false_eq_true,if_false,List.cons_append,List.append_assoc]at q;rcases E with ⟨h,-⟩|⟨-,⟨b,-,h,x⟩|⟨b,-⟩⟩;·exact absurd om p
    ·refine⟨x,?_⟩;rw[q,gJ]at b;rw[h];exact (Option.some.inj b).symm
    ·rw[q,gJ]at b;cases b
  have G:=B d[k] (List.getElem_mem v);have C:(s.data.toList.drop i1).takeWhile gC=d[k].data.toList:=by rw[g.2];exact mE _ _ (od G) (by intro c r e;cases e;decide)
  have z:s.data.toList.drop (i1+((s.data.toList.drop i1).takeWhile gC).length)=58 :: (fI m a[k]++(jl false ((go d (a.map (fI m))).drop (k+1))++125 :: l)):=by rw[C,<- List.drop_drop,g.2,List.drop_left]
  have o:j=false/\s.data.toList.drop i3=fI m a[k]++(jl false ((go d (a.map (fI m))).drop (k+1))++125 :: l):=by
   rcases y with ⟨b,-,h,x⟩|⟨b,-⟩;·rw[z,gJ]at b;exact⟨by rw[x];exact g.1,by rw[h];exact (Option.some.inj b).symm⟩
   ·rw[z,gJ]at b;cases b
  obtain⟨q1,q2,q3⟩:=p5 a[k] _ o.1 o.2 (M _ (List.getElem_mem w));refine⟨k+1,om,?_,?_,q2,?_⟩;·rw[ZA w,<- A,q1]
  ·rw[ZA v,<- H,C,rk]
  ·rw[q3,<- List.drop_drop,o.2,List.drop_left];simp
 ·cases f with
  | true=>simp;omega
  | false=>have:=(I rfl).2;simp;omega
theorem ky {t:K (m+1)} (h:fM (m+1) t d=true) :
  (t=(⟨1,[],[]⟩:Kd (K m))/\fI (m+1) t=[110,117,109])∨(t=(⟨2,[],[]⟩:Kd (K m))/\fI (m+1) t=[116,101,120,116])∨(t=(⟨3,[],[]⟩:Kd (K m))/\fI (m+1) t=[102,108,97,103]) ∨
  (∃x,t=(⟨4,[],[x]⟩:Kd (K m))/\fM m x (d+1)=true/\fI (m+1) t=91 :: (fI m x++[93]))∨(∃x,t=(⟨6,[],[x]⟩:Kd (K m))/\fM m x (d+1)=true/\fI (m+1) t=63 :: fI m x) ∨
  (∃na b,t=(⟨5,na,b⟩:Kd (K m))/\na.length=b.length/\(∀x,x∈na->gj x=true)/\(∀k,k∈b->fM m k (d+1)=true)/\fI (m+1) t=123 :: (fP (go na (b.map (fI m)))++[125])):=by
 simp only[fM,Zq]at h;have a:fX (Kd.sort t) (Kd.names t) (Kd.kids t).length=true:=h.1.2;have g:=List.all_eq_true.1 h.2;obtain⟨f,na,b⟩:Kd (K m):=t;simp only at a g;unfold fX at a;have one:(b.length:Int)=1->∃x,b=[x]/\fM m x (d+1)=true:=by
  intro r;match b,r,g with
  | [x],_,g=>exact⟨x,rfl,g x (Zj ..)⟩
 by_cases i:f=1;·rw[if_pos i]at a;simp only[Zq,beq_iff_eq]at a;have c:na=[]:=Zz (by have:=a.1;omega);have e:b=[]:=Zz (by have:=a.2;omega);subst c e i;exact .inl ⟨rfl,by simp[fI]⟩
 rw[if_neg i]at a;by_cases j:f=2;·rw[if_pos j]at a;simp only[Zq,beq_iff_eq]at a;have c:na=[]:=Zz (by have:=a.1;omega);have e:b=[]:=Zz (by have:=a.2;omega);subst c e j;exact .inr (.inl ⟨rfl,by simp[fI]⟩)
 rw[if_neg j]at a;by_cases l:f=3;·rw[if_pos l]at a;simp only[Zq,beq_iff_eq]at a;have c:na=[]:=Zz (by have:=a.1;omega);have e:b=[]:=Zz (by have:=a.2;omega);subst c e l;exact .inr (.inr (.inl ⟨rfl,by simp[fI]⟩))
 rw[if_neg l]at a;by_cases n:f=4;·rw[if_pos n]at a;simp only[Zq,beq_iff_eq]at a;have c:na=[]:=Zz (by have:=a.1;omega);obtain⟨x,e,s⟩:=one a.2;subst c e n;exact .inr (.inr (.inr (.inl ⟨x,rfl,s,by simp[fI,jb]⟩)))
 rw[if_neg n]at a;by_cases o:f=5
 ·rw[if_pos o]at a;simp only[Zq,beq_iff_eq]at a;have r:na.length=b.length:=by have:=a.1;omega
  subst o;exact .inr (.inr (.inr (.inr (.inr ⟨na,b,rfl,r,tP a.2,fun k q=>g k q,by simp[fI]⟩))))
 rw[if_neg o]at a;by_cases p:f=6;·rw[if_pos p]at a;simp only[Zq,beq_iff_eq]at a;have c:na=[]:=Zz (by have:=a.1;omega);obtain⟨x,e,s⟩:=one a.2;subst c e p;exact .inr (.inr (.inr (.inr (.inl ⟨x,rfl,s,by simp[fI,jb]⟩))))
 ·rw[if_neg p]at a;cases a
theorem iL{c:UInt8}{r:List UInt8}(h:s.data.toList.drop i=c :: r):fW s i=c:=by unfold fW;rw[h];rfl
theorem qO(n:Nat):(7-((n+1:Nat):Int))+1=7-(n:Int):=by omega
theorem mS {j:Int} (hi:i<=s.size) (l:(gy x.data.toList (s.data.toList.drop i)=Zo (s.data.toList.drop (i+x.size))/\i+x.size<=s.size/\i'=i+x.size/\bad'=false)∨(gy x.data.toList (s.data.toList.drop i)=Zn/\i'=i/\bad'=true))
  (o:0<x.size) (b:∀(t0:K (m+1)) a,s.data.toList.drop i=fI (m+1) t0++a->fM (m+1) t0 (7-((n+1:Nat):Int))=true->t0=(⟨j,[],[]⟩:Kd (K m))/\fI (m+1) t0=x.data.toList) :
  pJ (m+1) (n+1) s i false (⟨j,[],[]⟩:Kd (K m)) i' bad':=by
 rcases l with ⟨d,k,rfl,rfl⟩|⟨d,rfl,rfl⟩;·refine⟨om,fun _=>⟨rfl,om,k⟩,fun _=>om,fun h=>(by cases h),fun t0 a _ c e=>?_⟩;obtain⟨g,f⟩:=b t0 a c e;exact⟨g.symm,rfl,by rw[f];simp⟩
 ·refine⟨Nat.le_refl _,fun h=>(by cases h),fun _=>om,fun h=>(by cases h),fun t0 a _ c e=>?_⟩;obtain⟨g,f⟩:=b t0 a c e;rw[c,f,kw]at d;cases d
theorem B9(j:fW s i=110)(t0:K (m+1))(f:List UInt8)(h:s.data.toList.drop i=fI (m+1) t0++f)(k:fM (m+1) t0 d=true):t0=(⟨1,[],[]⟩:Kd (K m))/\fI (m+1) t0=[110,117,109]:=by
 rcases ky k with ⟨e,c⟩|⟨e,c⟩|⟨e,c⟩|⟨x,e,g,c⟩|⟨x,e,g,c⟩|⟨a,b,e,g,l,n,c⟩;·exact⟨e,c⟩
 all_goals (rw[c]at h;rw[iL h]at j;exact absurd j zC)
theorem zH(h:fW s i=116)(t0:K (m+1))(f:List UInt8)(g:s.data.toList.drop i=fI (m+1) t0++f)(k:fM (m+1) t0 d=true):t0=(⟨2,[],[]⟩:Kd (K m))/\fI (m+1) t0=[116,101,120,116]:=by
 rcases ky k with ⟨e,c⟩|⟨e,c⟩|⟨e,c⟩|⟨x,e,j,c⟩|⟨x,e,j,c⟩|⟨a,b,e,j,l,n,c⟩;·rw[c]at g;rw[iL g]at h;exact absurd h zC
 ·exact⟨e,c⟩
 all_goals (rw[c]at g;rw[iL g]at h;exact absurd h zC)
theorem yv(g:fW s i=102)(t0:K (m+1))(h:List UInt8)(f:s.data.toList.drop i=fI (m+1) t0++h)(k:fM (m+1) t0 d=true):t0=(⟨3,[],[]⟩:Kd (K m))/\fI (m+1) t0=[102,108,97,103]:=by
 rcases ky k with ⟨e,c⟩|⟨e,c⟩|⟨e,c⟩|⟨x,e,j,c⟩|⟨x,e,j,c⟩|⟨a,b,e,j,l,n,c⟩;·rw[c]at f;rw[iL f]at g;exact absurd g zC
 ·rw[c]at f;rw[iL f]at g;exact absurd g zC
 ·exact⟨e,c⟩
 all_goals (rw[c]at f;rw[iL f]at g;exact absurd g zC)
theorem DN{x:K m}(k:fW s i=63)(o:pJ m n s (i+1) false x i' bad'):pJ (m+1) (n+1) s i false (⟨6,[],[x]⟩:Kd (K m)) i' bad':=by
 obtain⟨A,p,q,B,r⟩:=o;refine⟨om,fun h=>⟨rfl,om,(p h).2.2⟩,fun _=>by have:=q rfl;omega,fun h=>(by cases h),fun t0 d _ g l=>?_⟩;rcases ky l with ⟨e,c⟩|⟨e,c⟩|⟨e,c⟩|⟨y,e,f,c⟩|⟨y,e,f,c⟩|⟨a,b,e,f,w,z,c⟩;case inr.inr.inr.inr.inl=>
  rw[c]at g;rw[qO]at f;have j:s.data.toList.drop (i+1)=fI m y++d:=by rw[<- List.drop_drop,g];rfl
  obtain⟨t,u,v⟩:=r y d rfl j f;exact⟨by rw[e,t],u,by rw[c,v,List.length_cons];omega⟩
 all_goals (rw[c]at g;rw[iL g]at k;exact absurd k zC)
theorem tA {x:K m} (p:fW s i=91) (B:pJ m n s (i+1) false x i1 bad1)
  (g:(gy [93] (s.data.toList.drop i1)=Zo (s.data.toList.drop (i1+1))/\i1+1<=s.size/\i'=i1+1/\bad'=bad1)∨((bad1=false->gy [93] (s.data.toList.drop i1)=Zn)/\i'=i1/\bad'=true)):pJ (m+1) (n+1) s i false (⟨4,[],[x]⟩:Kd (K m)) i' bad':=by
 obtain⟨H,I,q,J,C⟩:=B;have q:=q rfl;refine⟨?_,fun h=>⟨rfl,?_,?_⟩,fun _=>?_,fun h=>(by cases h),fun t0 d _ k A=>?_⟩;·rcases g with ⟨-,-,h,-⟩|⟨-,h,-⟩<;>omega
 ·rcases g with ⟨-,-,h,-⟩|⟨-,h,-⟩<;>omega
 ·rcases g with ⟨-,o,w,-⟩|⟨-,-,o⟩;·omega
  ·rw[o]at h;cases h
 ·rcases g with ⟨-,-,h,-⟩|⟨-,h,-⟩<;>omega
 rcases ky A with ⟨e,c⟩|⟨e,c⟩|⟨e,c⟩|⟨y,e,j,c⟩|⟨y,e,j,c⟩|⟨a,b,e,j,F,G,c⟩;case inr.inr.inr.inl=>
  rw[c]at k;rw[qO]at j;have f:s.data.toList.drop (i+1)=fI m y++(93 :: d):=by rw[<- List.drop_drop,k];simp
  obtain⟨D,r,t⟩:=C y _ rfl f j;have z:s.data.toList.drop i1=93 :: d:=by rw[t,<- List.drop_drop,f,List.drop_left]
  rcases g with ⟨l,E,u,v⟩|⟨l,-⟩;·exact⟨by rw[e,D],by rw[v,r],by rw[c,u,t];simp;omega⟩
  ·have:=l r;rw[z,gJ]at this;cases this
 all_goals (rw[c]at k;rw[iL k]at p;exact absurd p zC)
theorem FJ {O:List (K m)} (C:¬ fW s i=110) (D:¬ fW s i=116) (E:¬ fW s i=102) (F:¬ fW s i=63) (G:¬ fW s i=91)
  (T:li m n s i ns O i' bad') (l:bad'=false->fW s i'=125):pJ (m+1) (n+1) s i false (⟨5,ns,O⟩:Kd (K m)) (i'+1) bad':=by
 obtain⟨Z,R,h3,h4,h6,S⟩:=T;have w:bad'=false->i'<s.size:=fun j=>by have a:=l j;refine Classical.byContradiction fun V=>?_;rw[oS s i' om]at a;exact absurd a zC
 refine⟨om,fun j=>⟨rfl,om,w j⟩,fun _=>om,fun h=>(by cases h),fun t0 p _ f U=>?_⟩;rcases ky U with ⟨t,g⟩|⟨t,g⟩|⟨t,g⟩|⟨y,t,B,g⟩|⟨y,t,B,g⟩|⟨d,b,t,B,P,Y,g⟩;case inr.inr.inr.inr.inr=>
  rw[g]at f;have v:s.data.toList.drop i=123 :: (fP (go d (b.map (fI m)))++125 :: p):=by rw[f];simp
  obtain⟨k,N,H,I,j,M⟩:=S d b p B P v (fun k N=>by have:=Y k N;rwa [qO]at this);have a:=l j;have J:(go d (b.map (fI m))).length=b.length:=by rw[iz _ _ (by simpa using B)];simp
  have x:k=b.length:=by
   refine Classical.byContradiction fun X=>?_;have A:k<b.length:=om;have o:k<(go d (b.map (fI m))).length:=om;have z:k<d.length:=om;unfold fW at a;rw[M,List.drop_eq_getElem_cons o,vV _ _ _ z (by simpa using A) o,jl]at a;obtain⟨c,r,e,u⟩:=AR (P d[k] (List.getElem_mem z));by_cases q:k=0;·simp only[q,decide_true,if_true]at a;simp only[q]at e;rw[e]at a;simp only[List.cons_append,List.headD_cons]at a;exact (Gf u).2.1 a
   ·simp only[q,decide_false,Bool.false_eq_true,if_false,List.cons_append,List.headD_cons]at a;exact absurd a zC
  refine⟨?_,j,?_⟩;·rw[t,I,H,x,List.take_length,<- B,List.take_length]
  ·have W:=(R j).2;have A:=w j;have L:=congrArg List.length M;have Q:=congrArg List.length v;rw[x,<- J,List.drop_length]at L;rw[g];simp[jl]at L Q ⊢;omega
 ·rw[g]at f;exact absurd (iL f) C
 ·rw[g]at f;exact absurd (iL f) D
 ·rw[g]at f;exact absurd (iL f) E
 ·rw[g]at f;exact absurd (iL f) G
 ·rw[g]at f;exact absurd (iL f) F
theorem te (hi:i<=s.size) (l:(gy [123] (s.data.toList.drop i)=Zo (s.data.toList.drop (i+1))/\i+1<=s.size/\i'=i+1/\bad'=false)∨(gy [123] (s.data.toList.drop i)=Zn/\i'=i/\bad'=true)) :
  li m n s i [] [] i' bad':=by
 rcases l with ⟨c,j,rfl,rfl⟩|⟨c,rfl,rfl⟩;·refine⟨om,fun _=>⟨om,j⟩,om,zS,rfl,fun g f b a e d k=>⟨0,Nat.zero_le _,zS,zS,rfl,?_⟩⟩;rw[<- List.drop_drop,d];simp[pG]
 ·refine⟨Nat.le_refl _,fun h=>(by cases h),om,zS,rfl,fun g f b a e d k=>?_⟩;rw[d,gJ]at c;cases c
def gU(m n:Nat)(w:Zw)(R:Nat)(s:ZN)(i:Nat)(bad:Bool)(e:Ending)(w':Zw):Prop:=
 b8 R w w' /\ ∃(t:K m)(c0 c1 c2:Zv)(c:Nat)(a:Bool),e=Zr (Za #[c0,c1,c2])/\a8 (fun b=>w.heap.size<=b/\b<w'.heap.size) w' m t c0 c1 c2/\jm w' R s c a/\pJ m n s i bad t c a
def mH(n:Nat):Prop:=∀(m R:Nat)(s:ZN)(i:Nat)(bad:Bool)(w:Zw),n+1<=m->jm w R s i bad->s.size<=10000->(bad=false->i<=s.size)->i<=20000 ->
 Calls prog 146 #[Zp (Zo ⟨R,0,Zn⟩),Zi Zk (7-(n:Int))] w (gU m n w R s i bad)
theorem lL {bad:Bool} {t:K m} {g0 g1 g2:Zv} (a:b8 R w W) (k:R<w.heap.size) (j:jm W R s i' bad') (g:a8 (fun b=>w.heap.size+1<=b/\b<W.heap.size) W m t g0 g1 g2) (f:pJ m n s i bad t i' bad') :
  gU m n w R s i bad (Zr (Za #[g0,g1,g2])) (iD W w.heap.size 0 g0 g1 g2):=by have q:∀b,b≠w.heap.size->(iD W w.heap.size 0 g0 g1 g2).heap[b]?=W.heap[b]?:=fun b h=>ia h;have e:(iD W w.heap.size 0 g0 g1 g2).heap.size=W.heap.size:=iU;exact⟨⟨a.os,a.tape,a.output,by rw[e];exact a.size,fun b c d=>(q b om).trans (a.block b c d)⟩,t,_,_,_,i',bad',rfl,g.keep (fun b c=>q b om) (fun b c=>⟨om,by rw[e];exact c.2⟩),(q R om).trans j,f⟩
def leftRK(w:Zw)(R:Nat)(H:Nat):Nat:=match w.cell? ⟨R,2,Zn⟩ with|Zo (Zb true)=>0|_=>H+1-atOf w R
theorem jm.leftRK{b:Bool}(h:jm w R s i b)(H:Nat):leftRK w R H=if b=true then 0 else H+1-i:=by unfold Go.Proofs.YtcfojmaccikgeaaGreatDoor.leftRK;rw[h.cell2,h.atOf];cases b<;>simp
theorem yT{c:UInt8}(h:fW s i=c)(b:c≠0):gy [c] (s.data.toList.drop i)=Zo (s.data.toList.drop (i+1))/\i<s.size:=by
 have a:i<s.size:=Classical.byContradiction fun d=>b (by rw[<- h];exact oS s i om);have f:i<s.data.toList.length:=by simpa using a
 refine⟨?_,a⟩;have e:s.data.toList.drop i=c :: s.data.toList.drop (i+1):=by rw[List.drop_eq_getElem_cons f];congr 1;rw[<- h,tB s i a];simp[ByteArray.getElem_eq_getElem_data]
 rw[e,gJ]
theorem Hg (w:Zw) (R:Nat) (s x:ZN) (i:Nat) (bad:Bool) (h:jm w R s i bad) (k:x.size<=100) (hi:s.size<i+x.size) (f:i<=20000) :
  Calls prog 178 #[Zp (Zo ⟨R,0,Zn⟩),Zt x] w fun e d=>e=Zr (Zu #[])/\b8 R w d/\jm d R s i true:=by
 have c0:=h.cell0;have c1:=h.cell1;have c2:=h.cell2;have f2:=h.free 2;have b:∀m,jm ((w.drewN m).setCell ⟨R,2,Zn⟩ (Zb true)) R s i true:=fun m=>(h.drewN m).set2 true;have c:∀m,b8 R w ((w.drewN m).setCell ⟨R,2,Zn⟩ (Zb true)):=fun m=>((b8.refl R w).drewN m).trans (b8.set R 2 _ _);have a:Hid ((∀m,jm _ _ _ _ _)/\(∀m,b8 _ _ _)):=⟨b,c⟩;clear h b c;have j:IntKind.i64.wrap ((i:Int)+(x.size:Int))=(i:Int)+(x.size:Int):=by rw[IntKind.wrap_i64];omega
 have g:decide ((s.size:Int)<(i:Int)+(x.size:Int))=true:=zE;go_in;go_wp2;go_quiet (fail);go_wp2;refine bodyPost_ret (results_none rfl _ _ _) rfl ?_;exact⟨rfl,a.out.2 _,a.out.1 _⟩
theorem AQ {B:Nat} {wr:Zw} {n:List (K m)} {p o:Zv} (h:jo R X m w wr 5 ns n p o) (i:∀ b,X<b->W.heap[b]?=wr.heap[b]?) (y:wr.heap.size<=W.heap.size) (t:ns.length<=20000) (s:n.length<=20000) (x:B<=X) :
  a8 (fun b=>B<=b/\b<W.heap.size) W (m+1) (⟨5,ns,n⟩:Kd (K m)) (Zi Zk 5) p o:=by
 obtain⟨z,e,l⟩:=h.kids;have d:=fU h.names;have c:=fU e;refine⟨rfl,rfl,?_,?_⟩;·refine kg (gh h.names fun g a=>i g (by have:=d g a;omega)) t h.short fun g a=>?_;have:=d g a;exact⟨om,om⟩
 ·refine lM (gh e fun g a=>i g (by have:=c g a;omega)) s (fun g a=>?_) fun j r=>?_;·have:=c g a;exact⟨om,om⟩
  ·obtain⟨c0,c1,c2,q,k⟩:=l j r;refine⟨c0,c1,c2,q,k.keep (fun b f=>i b (by have:=f.1;omega)) (fun b f=>?_)⟩;have u:=f.1;have v:=f.2.1;exact⟨om,om⟩
theorem jo.start:jo R w.heap.size m w (w.alloc (Zc #[Zi Zk 5,Zs Zn 0 0,Zs Zn 0 0] 31)) 5 [] [] (Zs Zn 0 0) (Zs Zn 0 0):=
 ⟨b8.alloc _ _ _,heap_alloc_new _ _,World.ownsRow_nil _ _ _ _,fun _ h=>(by cases h),⟨[],World.ownsRow_nil _ _ _ _,fun j h=>absurd h (Nat.not_lt_zero _)⟩,fun b a=>by cases a⟩
theorem zg{k:Nat}(h:W.ownsRow (X+1) e z v k xs)(c:R<X)(a:b8 R W w2)(o:Obj):(w2.alloc o).ownsRow (X+1) e z v k xs:=
 gh h fun g d=>by
  have b:=fU h g d
  have f:=a.size
  rw[Below.heap_alloc _ _ _ om]
  exact a.block g b.2 om
theorem vO {k:Nat} {u:Zv} {j:Int} {b:Bool} {q:Nat} (a:jm w2 R s j b) (h:W.ownsRow (X+1) e z v k xs) (c:R<X) (d:(w2.alloc o).grownBy w3 v.ownBlock) :
  jm (w3.setCell ⟨X,q,Zn⟩ u) R s j b:=by have f:=a.lt;unfold jm at a ⊢;rw[Below.heap_setCell _ _ _ _ (by show R≠X;omega),d.block R zE (fun e=>by have:=fU h R e.symm;omega),Below.heap_alloc _ _ _ f];exact a
theorem sR{k:Nat}(h:W.ownsRow (X+1) e z v k xs)(c:X<W.heap.size)(b:R<X)(a:b8 R W w2)(d:(w2.alloc o).grownBy w3 v.ownBlock):w3.heap[X]?=W.heap[X]?:=by have f:=a.size;rw[d.block X zE (fun e=>by have:=fU h X e.symm;omega),Below.heap_alloc _ _ _ om];exact a.block X c om
end Go.Proofs.YtcfojmaccikgeaaGreatDoor
