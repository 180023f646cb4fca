import Derived.Test.YtcfojmaccikgeaaGreatDoorB2
import Derived.Laws.IdiomStrings
import Derived.Deep.RegionLaw
open Go.Value renaming int→Zi,string→Zt
open Go.Ending renaming returned→Zr
open Option renaming none→Zn,some→Zo
open Go renaming World→Zw,Value→Zv
open Nat renaming lt_of_lt_of_le→Zd
open List renaming mem_cons_self→Zj,mem_cons_of_mem→ZB
namespace Go.Proofs.YtcfojmaccikgeaaGreatDoor
open Go.RowKit Go.Proofs.Tryz
set_option maxRecDepth 100000
set_option maxHeartbeats 16000000
variable {w w' w1 w2 a c:Zw} {b:Nat} {v:Zv} {k:Int}
theorem wi{o:Nat}(h:w.cell? ⟨b,o,Zn⟩=Zo v):b<w.heap.size:=
 Classical.byContradiction fun a=>by
  have:w.heap[b]?=Zn:=Array.getElem?_eq_none om
  simp[World.cell?,this]at h
def tm:Nat->Nat->List UInt8
 | 0,_=>[]
 | f+1,n=>if n=0 then [] else tm f (n / 10)++[UInt8.ofNat (48+n % 10)]
def uF(n:Nat):List UInt8:=tm n n
theorem CG:∀(f g n:Nat),n<=f->n<=g->tm f n=tm g n:=by
 intro f;induction f with
 | zero=>intro g n h _;have:n=0:=om;subst this;cases g<;>simp[tm]
 | succ f b=>
  intro g n d c;cases g with
  | zero=>have:n=0:=om;subst this;simp[tm]
  | succ g=>
   by_cases a:n=0;·subst a;simp[tm]
   ·simp only[tm,if_neg a];rw[b g (n / 10) om om]
theorem vf:uF 0=[]:=rfl
theorem y8(n:Nat)(h:n≠0):uF n=uF (n / 10)++[UInt8.ofNat (48+n % 10)]:=by obtain⟨m,rfl⟩:=Nat.exists_eq_succ_of_ne_zero h;show tm (m+1) (m+1)=tm ((m+1) / 10) ((m+1) / 10)++_;rw[CG ((m+1) / 10) m ((m+1) / 10) (Nat.le_refl _) om];simp only[tm,if_neg h]
theorem FU:∀n:Nat,(uF n).length<=n:=by
 intro n;induction n using Nat.strongRecOn with
 | ind n a=>
  by_cases h:n=0;·subst h;rw[vf];simp
  ·rw[y8 n h];have:=a (n / 10) om;simp only[List.length_append,List.length_cons,List.length_nil];omega
def mt(k:Int):ByteArray:=bs (109 :: uF k.toNat)
structure fV where
 b:Nat
 o:Nat
 tx:Bool
def fV.at(s:fV):Addr:=⟨s.b,s.o,Zn⟩
def fV.val(s:fV)(k:Int):Zv:=if s.tx then Zt (mt k) else Zi .i64 k
def gT:Zw->List fV->Int->Zw
 | w,[],_=>w
 | w,s :: r,k=>gT (w.setCell s.at (s.val k)) r (k+1)
theorem ui(L:List fV)(s:fV):∀(w:Zw)(k:Int),gT w (L++[s]) k=(gT w L k).setCell s.at (s.val (k+L.length)):=by
 induction L with
 | nil=>intro w k;simp[gT]
 | cons a r b=>intro w k;simp only[List.cons_append,gT,b,List.length_cons];rw[show k+1+(r.length:Int)=k+((r.length+1:Nat):Int) by omega]
theorem xm(L M:List fV):∀(w:Zw)(k:Int),gT w (L++M) k=gT (gT w L k) M (k+L.length):=by
 induction L with
 | nil=>intro w k;simp[gT]
 | cons a r b=>intro w k;simp only[List.cons_append,gT,b,List.length_cons];rw[show k+1+(r.length:Int)=k+((r.length+1:Nat):Int) by omega]
theorem oX(h:w.heap[b]?=w'.heap[b]?)(p:Addr)(v:Zv):(w.setCell p v).heap[b]?=(w'.setCell p v).heap[b]?:=by
 by_cases a:b=p.block;·subst a;simp[World.setCell,Array.getElem?_modify,h]
 ·rw[Below.heap_setCell _ _ _ _ a,Below.heap_setCell _ _ _ _ a];exact h
theorem nU(L:List fV):∀ {w a:Zw} {b:Nat} (_:w.heap[b]?=a.heap[b]?) (k:Int),(gT w L k).heap[b]?=(gT a L k).heap[b]?:=by
 induction L with
 | nil=>intro w a b h k;exact h
 | cons s r c=>intro w a b h k;exact c (oX h _ _) _
structure gt(L:List fV)(k:Int)(w w':Zw):Prop where
 os:w'.os=w.os
 tape:w'.tape=w.tape
 output:w'.output=w.output
 size:w.heap.size<=w'.heap.size
 block:∀b:Nat,b<w.heap.size->w'.heap[b]?=(gT w L k).heap[b]?
theorem gt.refl(k:Int)(w:Zw):gt [] k w w:=⟨rfl,rfl,rfl,Nat.le_refl _,fun _ _=>rfl⟩
theorem gt.below{L:List fV}(h:gt L k w w1)(a:Bw w1 w2):gt L k w w2:=
 ⟨a.os.trans h.os,a.tape.trans h.tape,a.output.trans h.output,Nat.le_trans h.size a.size,fun b c=>(a.block b (Zd c h.size)).trans (h.block b c)⟩
theorem gt.from_below{L:List fV}(a:Bw w w1)(h:gt L k w1 w2):gt L k w w2:=
 ⟨h.os.trans a.os,h.tape.trans a.tape,h.output.trans a.output,Nat.le_trans a.size h.size,fun b c=>(h.block b (Zd c a.size)).trans (nU L (a.block b c) k)⟩
theorem gt.snoc{L:List fV}(h:gt L k w w1)(s:fV):gt (L++[s]) k w (w1.setCell s.at (s.val (k+L.length))):=
 ⟨h.os,h.tape,h.output,by simpa using h.size,fun b a=>by rw[ui];exact oX (h.block b a) _ _⟩
theorem gt.trans{L M:List fV}(h:gt L k w w1)(a:gt M (k+L.length) w1 w2):gt (L++M) k w w2:=
 ⟨a.os.trans h.os,a.tape.trans h.tape,a.output.trans h.output,Nat.le_trans h.size a.size,fun b c=>by
  rw[a.block b (Zd c h.size),xm];exact nU M (h.block b c) _⟩
structure vB(w w':Zw):Prop where
 int:∀b o x,w.cell? ⟨b,o,Zn⟩=Zo (Zi .i64 x)->∃y,w'.cell? ⟨b,o,Zn⟩=Zo (Zi .i64 y)
 str:∀b o x,w.cell? ⟨b,o,Zn⟩=Zo (Zt x)->∃y,w'.cell? ⟨b,o,Zn⟩=Zo (Zt y)
 sl:∀b o a l c,w.cell? ⟨b,o,Zn⟩=Zo (.slice a l c)->w'.cell? ⟨b,o,Zn⟩=Zo (.slice a l c)
 fz:∀b o,b<w.heap.size->w'.frozen? ⟨b,o,Zn⟩=w.frozen? ⟨b,o,Zn⟩
 size:w.heap.size<=w'.heap.size
theorem vB.refl(w:Zw):vB w w:=⟨fun _ _ x h=>⟨x,h⟩,fun _ _ x h=>⟨x,h⟩,fun _ _ _ _ _ h=>h,fun _ _ _=>rfl,Nat.le_refl _⟩
theorem vB.trans{b:Zw}(h:vB a b)(k:vB b c):vB a c:=by
 refine⟨fun b o x d=>?_,fun b o x d=>?_,fun b o _ _ _ d=>k.sl _ _ _ _ _ (h.sl _ _ _ _ _ d),fun b o f=>?_,Nat.le_trans h.size k.size⟩;·obtain⟨y,e⟩:=h.int b o x d;exact k.int b o y e
 ·obtain⟨y,e⟩:=h.str b o x d;exact k.str b o y e
 ·rw[k.fz b o (Zd f h.size),h.fz b o f]
theorem vB.below{b:Zw}(h:vB a b)(e:Bw b c):vB a c:=by
 refine h.trans ⟨fun f o x d=>?_,fun f o x d=>?_,fun f o _ _ _ d=>?_,fun f o g=>e.frozen (p:=⟨f,o,Zn⟩) g,e.size⟩;·exact⟨x,kC e d (wi d)⟩
 ·exact⟨x,kC e d (wi d)⟩
 ·exact kC e d (wi d)
def fV.ok(s:fV)(w:Zw):Prop:=(if s.tx then ∃x,w.cell? s.at=Zo (Zt x) else ∃x,w.cell? s.at=Zo (Zi .i64 x))/\w.frozen? s.at=false
theorem fV.ok_lt{s:fV}(h:s.ok w):s.b<w.heap.size:=by
 obtain⟨h,-⟩:=h;cases ht:s.tx with
 | true=>rw[ht]at h;obtain⟨x,a⟩:=h;exact wi (o:=s.o) a
 | false=>rw[ht]at h;obtain⟨x,a⟩:=h;exact wi (o:=s.o) a
theorem fV.ok_sim{s:fV}(h:s.ok w)(e:vB w w'):s.ok w':=by
 have c:=fV.ok_lt h;obtain⟨a,f⟩:=h;refine⟨?_,(e.fz s.b s.o c).trans f⟩;cases ht:s.tx with
 | true=>rw[ht]at a;obtain⟨x,d⟩:=a;exact e.str s.b s.o x d
 | false=>rw[ht]at a;obtain⟨x,d⟩:=a;exact e.int s.b s.o x d
theorem BG{s:fV}(h:s.ok w)(k:Int):vB w (w.setCell s.at (s.val k)):=by
 obtain⟨f,-⟩:=h;have other:∀b o v,s.at≠⟨b,o,Zn⟩->w.cell? ⟨b,o,Zn⟩=Zo v->(w.setCell s.at (s.val k)).cell? ⟨b,o,Zn⟩=Zo v:=fun b o v g d=>(World.cell?_setCell_other _ _ _ _ g).trans d;cases ht:s.tx with
 | true=>
  rw[ht]at f;obtain⟨u,c⟩:=f;have d:s.val k=Zt (mt k):=by simp[fV.val,ht]
  refine⟨fun b o x a=>?_,fun b o x a=>?_,fun b o _ _ _ a=>?_,fun b o _=>World.frozen?_setCell _ _ _ _,zS⟩;·exact⟨x,other b o _ (fun e=>by rw[<- e,c]at a;cases a) a⟩
  ·by_cases e:s.at=⟨b,o,Zn⟩;·rw[<- e]at a ⊢;exact⟨_,(World.cell?_setCell_same _ _ _ a).trans (by rw[d])⟩
   ·exact⟨x,other b o _ e a⟩
  ·exact other b o _ (fun e=>by rw[<- e,c]at a;cases a) a
 | false=>
  rw[ht]at f;obtain⟨u,c⟩:=f;have d:s.val k=Zi .i64 k:=by simp[fV.val,ht]
  refine⟨fun b o x a=>?_,fun b o x a=>?_,fun b o _ _ _ a=>?_,fun b o _=>World.frozen?_setCell _ _ _ _,zS⟩
  ·by_cases e:s.at=⟨b,o,Zn⟩;·rw[<- e]at a ⊢;exact⟨_,(World.cell?_setCell_same _ _ _ a).trans (by rw[d])⟩
   ·exact⟨x,other b o _ e a⟩
  ·exact⟨x,other b o _ (fun e=>by rw[<- e,c]at a;cases a) a⟩
  ·exact other b o _ (fun e=>by rw[<- e,c]at a;cases a) a
theorem xn:∀(L:List fV){w:Zw}(_:∀s,s∈L->s.ok w)(k:Int),vB w (gT w L k):=by
 intro L;induction L with
 | nil=>intro w _ k;exact vB.refl w
 | cons s r c=>intro w h k;have a:=BG (h s (Zj ..)) k;exact a.trans (c (fun x b=>fV.ok_sim (h x (ZB _ b)) a) (k+1))
theorem gt.sim{L:List fV}(h:gt L k w w')(i:∀s,s∈L->s.ok w):vB w w':=by
 have e:=xn L i k;have f:∀b o,b<w.heap.size->w'.cell? ⟨b,o,Zn⟩=(gT w L k).cell? ⟨b,o,Zn⟩:=fun b o d=>World.cell?_of_block (w:=gT w L k) (w':=w') (a:=⟨b,o,Zn⟩) (h.block b d);have g:∀b o,b<w.heap.size->w'.frozen? ⟨b,o,Zn⟩=(gT w L k).frozen? ⟨b,o,Zn⟩:=fun b o d=>by simp only[World.frozen?,h.block b d]
 refine⟨fun b o x c=>?_,fun b o x c=>?_,fun b o _ _ _ c=>?_,fun b o d=>(g b o d).trans (e.fz b o d),h.size⟩;·rw[f b o (wi c)];exact e.int b o x c
 ·rw[f b o (wi c)];exact e.str b o x c
 ·rw[f b o (wi c)];exact e.sl b o _ _ _ c
def Holds(w:Zw):List fV->Int->Prop
 | [],_=>True
 | s :: r,k=>w.cell? s.at=Zo (s.val k)/\Holds w r (k+1)
theorem EB:∀ {w:Zw} {L:List fV} {k:Int},Holds w L k->∀(i:Nat)(h:i<L.length),w.cell? L[i].at=Zo (L[i].val (k+i)):=by
 intro w L;induction L with
 | nil=>intro k _ i h;exact absurd h (Nat.not_lt_zero _)
 | cons s r b=>
  intro k a i h;cases i with
  | zero=>simpa using a.1
  | succ i=>have:=b a.2 i (by simpa using h);simp only[List.getElem_cons_succ];rw[this,show k+1+(i:Int)=k+((i+1:Nat):Int) by omega]
theorem mU:∀ {L M:List fV} {k:Int},Holds w (L++M) k->Holds w L k/\Holds w M (k+L.length):=by
 intro L;induction L with
 | nil=>intro M k h;exact⟨trivial,by simpa using h⟩
 | cons s r c=>intro M k h;obtain⟨b,a⟩:=c h.2;exact⟨⟨h.1,b⟩,by simp only[List.length_cons];rw[show k+((r.length+1:Nat):Int)=k+1+(r.length:Int) by omega];exact a⟩
theorem xv(p:Addr):∀(L:List fV)(w:Zw)(k:Int),(∀s,s∈L->s.at≠p)->(gT w L k).cell? p=w.cell? p:=by
 intro L;induction L with
 | nil=>intro w k _;rfl
 | cons s r b=>intro w k h;rw[gT,b _ _ (fun x a=>h x (ZB _ a)),World.cell?_setCell_other _ _ _ _ (h s (Zj ..))]
theorem rZ:∀(L:List fV)(w:Zw)(k:Int),(∀s,s∈L->s.ok w)->L.Pairwise (fun a b=>a.at≠b.at)->Holds (gT w L k) L k:=by
 intro L;induction L with
 | nil=>intro w k _ _;trivial
 | cons s r j=>
  intro w k h i;have c:=List.pairwise_cons.1 i;have g:=BG (h s (Zj ..)) k;refine⟨?_,j _ (k+1) (fun x f=>fV.ok_sim (h x (ZB _ f)) g) c.2⟩;rw[gT,xv _ _ _ _ (fun x f=>(c.1 x f).symm)];obtain⟨d,-⟩:=h s (Zj ..);cases ht:s.tx with
  | true=>rw[ht]at d;obtain⟨u,e⟩:=d;exact World.cell?_setCell_same _ _ _ e
  | false=>rw[ht]at d;obtain⟨u,e⟩:=d;exact World.cell?_setCell_same _ _ _ e
theorem Holds.keep:∀ {L:List fV} {k:Int},Holds w L k->(∀s,s∈L->w'.cell? s.at=w.cell? s.at)->Holds w' L k:=by
 intro L;induction L with
 | nil=>intro k _ _;trivial
 | cons s r c=>intro k h a;exact⟨(a s (Zj ..)).trans h.1,c h.2 (fun x b=>a x (ZB _ b))⟩
theorem D2(W:Zw)(N:Nat)(c:UInt8)(h:W.cell? ⟨N,0,Zn⟩=Zo (Zi .u8 (c.toNat:Int))):(convert 156 9 (.slice (Zo ⟨N,0,Zn⟩) 1 1)).run prog W=.ok (Zt (bs [c])) W:=
 run_convert_bytes_back (P:=prog) W 156 9 5 ⟨N,0,Zn⟩ 1 [c] underlying156 underlying5 underlying9 (fun j a=>by
  match j,a with
  | 0,_=>exact h)
theorem II(r:Nat)(h:r<10):(48:Int)+(r:Int)=((UInt8.ofNat (48+r)).toNat:Int):=by have:(UInt8.ofNat (48+r)).toNat=48+r:=zE;rw[this];omega
theorem FJ{a b:ByteArray}(h:a=b):Ending.returned (Zt a)=Zr (Zt b):=by rw[h]
theorem lH(k:Int)(w:Zw)(G:1<=k)(H:k<=1000000000):Calls prog 48 #[Zi .i64 k] w fun e D=>e=Zr (Zt (mt k))/\Bw w D:=by
 have B:Hid ((uF k.toNat).length<=1000000000):=by have:=FU k.toNat;show _<=_;omega
 go_in;go_wp2;go_loopw [0,3] (fun a b wr=>∃(x:Nat)(acc:List UInt8),a=Zi .i64 x/\b=Zt (bs acc)/\uF x++acc=uF k.toNat/\x<=1000000000/\Bw w wr) (fun a _ _=>(intOf a).toNat);case atStart=>exact⟨k.toNat,[],by congr 1;omega,rfl,zS,om,Below.refl _ _⟩
 case round=>
  obtain⟨x,acc,rfl,rfl,g,F,f⟩:=hrel;have i:acc.length<=1000000000:=by have h:=B.out;rw[<- g]at h;simp at h;omega
  have d:=a7 g;clear g;by_cases A:0<x
  ·have s:Hid (uF (x / 10)++(UInt8.ofNat (48+x % 10) :: acc)=uF k.toNat):=by show _=_;have h:=d.out;rw[y8 x om]at h;rw[<- h];simp
   have l:∀(W:Zw)(N:Nat),W.cell? ⟨N,0,Zn⟩=Zo (Zi .u8 (48+(x:Int) % 10))->(convert 156 9 (.slice (Zo ⟨N,0,Zn⟩) 1 1)).run prog W=.ok (Zt (bs [UInt8.ofNat (48+x % 10)])) W:=fun W N y=>by refine D2 W N (UInt8.ofNat (48+x % 10)) ?_;rw[y,<- II (x % 10) om,show (((x % 10:Nat)):Int)=(x:Int) % 10 by omega]
   have p:=l (wr.alloc (.cells #[Zi .u8 (48+(x:Int) % 10)] 5)) wr.heap.size (by simp[go_sem]);clear l;generalize UInt8.ofNat (48+x % 10)=c at *;have o:Hid (bs [c]++bs acc=bs (c :: acc)):=by show _=_;rw[gB];rfl
   have t:(bs [c]).size=1:=by rw[go];rfl
   have n:(bs acc).size<=1000000000:=by rw[go];exact i
   have v:IntKind.i64.wrap ((x:Int) / 10)=(x:Int) / 10:=by rw[IntKind.wrap_i64];omega
   have q:IntKind.i64.wrap ((x:Int) % 10)=(x:Int) % 10:=by rw[IntKind.wrap_i64];omega
   have z:IntKind.i64.wrap (48+(x:Int) % 10)=48+(x:Int) % 10:=by rw[IntKind.wrap_i64];omega
   have C:IntKind.u8.wrap (48+(x:Int) % 10)=48+(x:Int) % 10:=by rw[IntKind.wrap_u8];omega
   have r:(x:Int).tmod 10=(x:Int) % 10:=Int.tmod_eq_emod_of_nonneg om;have E:(x:Int).tdiv 10=(x:Int) / 10:=Int.tdiv_eq_ediv_of_nonneg om;have u:(0:Int)<(x:Int):=om;have j:=f.alloc f.size (.cells #[Zi .u8 (48+(x:Int) % 10)] 5);clear d;go_wp2;go_roundw;case rel=>exact⟨x / 10,c :: acc,by congr 1,by rw[<- o.out],s.out,om,j⟩
   case measure=>simp[intOf];omega
  ·have m:x=0:=by omega
   subst m;have o:Hid (bs [109]++bs acc=mt k):=by show _=_;have h:=d.out;rw[vf,List.nil_append]at h;rw[mt,<- h,gB];rfl
   have n:(bs acc).size<=1000000000:=by rw[go];exact i
   clear d;go_wp2;go_ret;exact⟨FJ o.out,f⟩
def lW(w:Zw)(v:Zv)(L:List fV):Prop:=
 ∃(a:Option Addr)(cap:Nat),v=.slice a L.length cap/\L.length<=maxLen/\(∀i (h:i<L.length),∃b off,a=Zo ⟨b,off,Zn⟩/\L[i]=⟨b,off+i,true⟩)/\∀s,s∈L->s.ok w
theorem lW.sim{L:List fV}(h:lW w v L)(d:vB w w'):lW w' v L:=by obtain⟨b,cap,c,g,f,e⟩:=h;exact⟨b,cap,c,g,f,fun s a=>fV.ok_sim (e s a) d⟩
theorem lW.ok{L:List fV}(h:lW w v L):∀s,s∈L->s.ok w:=by obtain⟨-,-,-,-,-,a⟩:=h;exact a
theorem jm (L:List fV) (v:Zv) (k:Int) (w:Zw) (h:lW w v L) (I:1<=k) (K:k+L.length<=1000000000) :
  Calls prog 49 #[v,Zi .i64 k] w fun e d=>e=Zr (Zi .i64 (k+L.length))/\gt L k w d:=by
 obtain⟨M,cap,rfl,E,B,t⟩:=h;have q:Hid (∀s,s∈L->s.ok w):=t;clear t;go_in;go_wp2;go_loopw [1,5] (fun a i wr=>∃j:Nat,j<=L.length/\i=Zi .i64 j/\a=Zi .i64 (k+j)/\gt (L.take j) k w wr) (fun _ i _=>L.length-(intOf i).toNat);case atStart=>exact⟨0,Nat.zero_le _,rfl,zS,by simpa using gt.refl k w⟩
 case round=>
  obtain⟨j,J,rfl,rfl,c⟩:=hrel;by_cases f:j<L.length
  ·obtain⟨b,off,rfl,l⟩:=B j f;have g:=c.sim (fun s H=>q.out s (List.mem_of_mem_take H));have n:=fV.ok_sim (q.out _ (List.getElem_mem f)) g;rw[l]at n;obtain⟨⟨x,A⟩,y⟩:=n;have D:Hid (Calls prog 48 #[Zi .i64 (k+j)] wr fun e d=>e=Zr (Zt (mt (k+j)))/\Bw wr d/\d.cell? ⟨b,off+j,Zn⟩=Zo (Zt x)/\d.frozen? ⟨b,off+j,Zn⟩=false):=by refine (lH (k+j) wr om om).mono ?_;rintro e d ⟨rfl,u⟩;exact⟨rfl,u,kC u A (wi (o:=off+j) A),(u.frozen (p:=⟨b,off+j,Zn⟩) (wi (o:=off+j) A)).trans y⟩
   have C:Hid (∀d,Bw wr d->gt (L.take (j+1)) k w (d.setCell ⟨b,off+j,Zn⟩ (Zt (mt (k+j))))):=by intro d u;have:=(c.below u).snoc L[j];rw[List.take_succ_eq_append_getElem f];rw[l]at this ⊢;simpa [fV.at,fV.val,List.length_take,Nat.min_eq_left (Nat.le_of_lt f)] using this
   clear g c B l A y;generalize mt (k+j)=tx at *;go_wp2_with fail;refine D.out.mono ?_;rintro e w1 ⟨rfl,r,F,G⟩;have z:Hid _:=C.out w1 r;clear r D C;go_wp2;go_roundw;case rel=>exact⟨j+1,om,by go_num,by go_num,z.out⟩
   case measure=>simp[intOf];omega
  ·have m:j=L.length:=by omega
   have z:Hid (gt L k w wr/\k+(j:Int)=k+(L.length:Int)):=by rw[m,List.take_length]at c;exact⟨c,by rw[m]⟩
   clear m c B;go_wp2;go_ret;exact⟨fO z.out.2,z.out.1⟩
theorem nD (L:List fV) (v:Zv) (k:Int) (w:Zw) (h:lW w v L) (t:Holds w L k) (C:1<=k) (E:k+L.length<=1000000000) :
  Calls prog 52 #[v,Zi .i64 k] w fun e f=>e=Zr (Zi .i64 (k+L.length))/\Bw w f:=by
 obtain⟨F,cap,rfl,u,p,-⟩:=h;have y:Hid (Holds w L k):=t;clear t;go_in;go_wp2;go_loopw [1,5] (fun a i wr=>∃j:Nat,j<=L.length/\i=Zi .i64 j/\a=Zi .i64 (k+j)/\Bw w wr) (fun _ i _=>L.length-(intOf i).toNat);case atStart=>exact⟨0,Nat.zero_le _,rfl,zS,Below.refl _ _⟩
 case round=>
  obtain⟨j,D,rfl,rfl,c⟩:=hrel;by_cases m:j<L.length
  ·obtain⟨b,off,rfl,g⟩:=p j m;have r:=EB y.out j m;rw[g]at r;have d:w.cell? ⟨b,off+j,Zn⟩=Zo (Zt (mt (k+j))):=by simpa [fV.at,fV.val] using r
   have f0:=kC c d (wi d);have s:=c.size;have A:Hid (Calls prog 48 #[Zi .i64 (k+j)] wr.drew fun e f=>e=Zr (Zt (mt (k+j)))/\Bw wr f/\f.cell? ⟨b,off+j,Zn⟩=Zo (Zt (mt (k+j)))):=by refine (lH (k+j) wr.drew om om).mono ?_;rintro e f ⟨rfl,B⟩;have l:Bw wr f:=((Below.refl _ _).drew).trans B;exact⟨rfl,l,kC l f0 (wi (o:=off+j) f0)⟩
   clear p g r d;generalize mt (k+j)=tx at *;go_wp2_with fail;go_region_law (go_simp;go_at_call 48;refine A.out.mono ?_;rintro e w1 ⟨rfl,n,z⟩);all_goals
    have q:=b4 c s n
    clear n
    go_wp2
    go_roundw
    case rel=>exact⟨j+1,om,by go_num,by go_num,q⟩
    case measure=>simp[intOf];omega
  ·have x:Hid (k+(j:Int)=k+(L.length:Int)):=by show _=_;omega
   clear p;go_wp2;go_ret;exact⟨fO x.out,c⟩
theorem tA:∀(L:List fV)(w:Zw)(k:Int),(∀s,s∈L->s.b≠b)->(gT w L k).heap[b]?=w.heap[b]?:=by
 intro L;induction L with
 | nil=>intro w k _;rfl
 | cons s r c=>intro w k h;rw[gT,c _ _ (fun x a=>h x (ZB _ a))];exact Below.heap_setCell _ _ _ _ (fun e=>h s (Zj ..) e.symm)
theorem gt.other{L:List fV}(h:gt L k w w')(a:b<w.heap.size)(c:∀s,s∈L->s.b≠b):w'.heap[b]?=w.heap[b]?:=(h.block b a).trans (tA L w k c)
theorem gt.below_of{L:List fV}{M:Nat}(h:Below M a w)(g:M<=w.heap.size)(c:gt L k w w')(d:∀s,s∈L->M<=s.b):Below M a w':=
 ⟨c.os.trans h.os,c.tape.trans h.tape,c.output.trans h.output,Nat.le_trans h.size c.size,fun b f=>(c.other om (fun s e=>by have:=d s e;omega)).trans (h.block b f)⟩
theorem gt.holds{L:List fV}(h:gt L k w w')(c:∀s,s∈L->s.ok w)(e:L.Pairwise (fun a b=>a.at≠b.at)):Holds w' L k:=
 (rZ L w k c e).keep (fun s d=>World.cell?_of_block (w:=gT w L k) (w':=w') (a:=s.at) (h.block s.b (fV.ok_lt (c s d))))
end Go.Proofs.YtcfojmaccikgeaaGreatDoor
