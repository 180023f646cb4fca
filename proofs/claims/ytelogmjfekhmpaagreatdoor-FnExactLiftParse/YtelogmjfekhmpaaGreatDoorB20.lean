import Derived.Test.YtelogmjfekhmpaaGreatDoorB1
import Derived.Laws.IdiomStrings
import Derived.Deep.RegionLaw
import Derived.Handy
import Derived.Test.YtelogmjfekhmpaaGreatDoorB3
import Derived.Test.YtelogmjfekhmpaaGreatDoorB5
import Derived.Test.YtelogmjfekhmpaaGreatDoorCopyN
import Derived.Deep.RegionWith
namespace Go.Proofs.YtelogmjfekhmpaaGreatDoor
open Go.RowKit Go.Proofs.Tryz
set_option maxRecDepth 100000
set_option maxHeartbeats 16000000
theorem mlt{w:World}{b o:Nat}{v:Value}(h:w.cell? ⟨b,o,none⟩=some v):b<w.heap.size:=
 Classical.byContradiction fun hge=>by
  have:w.heap[b]?=none:=Array.getElem?_eq_none (by omega)
  simp[World.cell?,this]at h
def decF:Nat->Nat->List UInt8
 | 0,_=>[]
 | f+1,n=>if n=0 then [] else decF f (n / 10)++[UInt8.ofNat (48+n % 10)]
def decM(n:Nat):List UInt8:=decF n n
theorem xcI:∀(f g n:Nat),n<=f->n<=g->decF f n=decF g n:=by
 intro f
 induction f with
 | zero=>
  intro g n h _
  have:n=0:=by omega
  subst this
  cases g<;>simp[decF]
 | succ f ih=>
  intro g n a b
  cases g with
  | zero=>
   have:n=0:=by omega
   subst this
   simp[decF]
  | succ g=>
   by_cases h0:n=0
   ·subst h0;simp[decF]
   ·simp only[decF,if_neg h0]
    rw[ih g (n / 10) (by omega) (by omega)]
theorem qsA:decM 0=[]:=rfl
theorem qwL(n:Nat)(h:n≠0):decM n=decM (n / 10)++[UInt8.ofNat (48+n % 10)]:=by
 obtain⟨m,rfl⟩:=Nat.exists_eq_succ_of_ne_zero h
 show decF (m+1) (m+1)=decF ((m+1) / 10) ((m+1) / 10)++_
 rw[xcI ((m+1) / 10) m ((m+1) / 10) (Nat.le_refl _) (by omega)]
 simp only[decF,if_neg h]
theorem xgH:∀n:Nat,(decM n).length<=n:=by
 intro n
 induction n using Nat.strongRecOn with
 | ind n ih=>
  by_cases h:n=0
  ·subst h;rw[qsA];simp
  ·rw[qwL n h]
   have:=ih (n / 10) (by omega)
   simp only[List.length_append,List.length_cons,List.length_nil]
   omega
def mt(k:Int):ByteArray:=bs (109 :: decM k.toNat)
structure Spot where
 b:Nat
 o:Nat
 tx:Bool
def Spot.at(s:Spot):Addr:=⟨s.b,s.o,none⟩
def Spot.val(s:Spot)(k:Int):Value:=if s.tx then .string (mt k) else .int .i64 k
def qbE:World->List Spot->Int->World
 | w,[],_=>w
 | w,s :: r,k=>qbE (w.setCell s.at (s.val k)) r (k+1)
theorem qpT(L:List Spot)(s:Spot):∀(w:World)(k:Int),qbE w (L++[s]) k=(qbE w L k).setCell s.at (s.val (k+L.length)):=by
 induction L with
 | nil=>intro w k;simp[qbE]
 | cons a r ih=>
  intro w k
  simp only[List.cons_append,qbE,ih,List.length_cons]
  rw[show k+1+(r.length:Int)=k+((r.length+1:Nat):Int) by omega]
theorem qsB(L M:List Spot):∀(w:World)(k:Int),qbE w (L++M) k=qbE (qbE w L k) M (k+L.length):=by
 induction L with
 | nil=>intro w k;simp[qbE]
 | cons a r ih=>
  intro w k
  simp only[List.cons_append,qbE,ih,List.length_cons]
  rw[show k+1+(r.length:Int)=k+((r.length+1:Nat):Int) by omega]
theorem qiW{w w':World}{b:Nat}(h:w.heap[b]?=w'.heap[b]?)(p:Addr)(v:Value):(w.setCell p v).heap[b]?=(w'.setCell p v).heap[b]?:=by
 by_cases hp:b=p.block
 ·subst hp;simp[World.setCell,Array.getElem?_modify,h]
 ·rw[Below.heap_setCell _ _ _ _ hp,Below.heap_setCell _ _ _ _ hp];exact h
theorem qhP(L:List Spot):∀ {w w':World} {b:Nat} (_:w.heap[b]?=w'.heap[b]?) (k:Int),(qbE w L k).heap[b]?=(qbE w' L k).heap[b]?:=by
 induction L with
 | nil=>intro w w' b h k;exact h
 | cons s r ih=>intro w w' b h k;exact ih (qiW h _ _) _
structure Wrote(L:List Spot)(k:Int)(w w':World):Prop where
 os:w'.os=w.os
 tape:w'.tape=w.tape
 output:w'.output=w.output
 size:w.heap.size<=w'.heap.size
 block:∀b:Nat,b<w.heap.size->w'.heap[b]?=(qbE w L k).heap[b]?
theorem Wrote.refl(k:Int)(w:World):Wrote [] k w w:=⟨rfl,rfl,rfl,Nat.le_refl _,fun _ _=>rfl⟩
theorem Wrote.below{L:List Spot}{k:Int}{w w1 w2:World}(h:Wrote L k w w1)(hb:Below w1.heap.size w1 w2):Wrote L k w w2:=
 ⟨hb.os.trans h.os,hb.tape.trans h.tape,hb.output.trans h.output,Nat.le_trans h.size hb.size,fun b hb'=>(hb.block b (Nat.lt_of_lt_of_le hb' h.size)).trans (h.block b hb')⟩
theorem Wrote.from_below{L:List Spot}{k:Int}{w w1 w2:World}(hb:Below w.heap.size w w1)(h:Wrote L k w1 w2):Wrote L k w w2:=
 ⟨h.os.trans hb.os,h.tape.trans hb.tape,h.output.trans hb.output,Nat.le_trans hb.size h.size,fun b hb'=>(h.block b (Nat.lt_of_lt_of_le hb' hb.size)).trans (qhP L (hb.block b hb') k)⟩
theorem Wrote.snoc{L:List Spot}{k:Int}{w w1:World}(h:Wrote L k w w1)(s:Spot):Wrote (L++[s]) k w (w1.setCell s.at (s.val (k+L.length))):=
 ⟨h.os,h.tape,h.output,by simpa using h.size,fun b hb=>by rw[qpT];exact qiW (h.block b hb) _ _⟩
theorem Wrote.trans{L M:List Spot}{k:Int}{w w1 w2:World}(h:Wrote L k w w1)(h2:Wrote M (k+L.length) w1 w2):Wrote (L++M) k w w2:=
 ⟨h2.os.trans h.os,h2.tape.trans h.tape,h2.output.trans h.output,Nat.le_trans h.size h2.size,fun b hb=>by
  rw[h2.block b (Nat.lt_of_lt_of_le hb h.size),qsB];exact qhP M (h.block b hb) _⟩
structure Sim(w w':World):Prop where
 int:∀b o x,w.cell? ⟨b,o,none⟩=some (.int .i64 x)->∃y,w'.cell? ⟨b,o,none⟩=some (.int .i64 y)
 str:∀b o x,w.cell? ⟨b,o,none⟩=some (.string x)->∃y,w'.cell? ⟨b,o,none⟩=some (.string y)
 sl:∀b o a l c,w.cell? ⟨b,o,none⟩=some (.slice a l c)->w'.cell? ⟨b,o,none⟩=some (.slice a l c)
 fz:∀b o,b<w.heap.size->w'.frozen? ⟨b,o,none⟩=w.frozen? ⟨b,o,none⟩
 size:w.heap.size<=w'.heap.size
theorem Sim.refl(w:World):Sim w w:=⟨fun _ _ x h=>⟨x,h⟩,fun _ _ x h=>⟨x,h⟩,fun _ _ _ _ _ h=>h,fun _ _ _=>rfl,Nat.le_refl _⟩
theorem Sim.trans{a b c:World}(h:Sim a b)(k:Sim b c):Sim a c:=by
 refine⟨fun b o x hx=>?_,fun b o x hx=>?_,fun b o _ _ _ hx=>k.sl _ _ _ _ _ (h.sl _ _ _ _ _ hx),fun b o hb=>?_,Nat.le_trans h.size k.size⟩
 ·obtain⟨y,d⟩:=h.int b o x hx;exact k.int b o y d
 ·obtain⟨y,d⟩:=h.str b o x hx;exact k.str b o y d
 ·rw[k.fz b o (Nat.lt_of_lt_of_le hb h.size),h.fz b o hb]
theorem Sim.below{a b c:World}(h:Sim a b)(hb:Below b.heap.size b c):Sim a c:=by
 refine h.trans ⟨fun b' o x hx=>?_,fun b' o x hx=>?_,fun b' o _ _ _ hx=>?_,fun b' o hb'=>hb.frozen (p:=⟨b',o,none⟩) hb',hb.size⟩
 ·exact⟨x,(hb.cell (p:=⟨b',o,none⟩) (mlt hx)).trans hx⟩
 ·exact⟨x,(hb.cell (p:=⟨b',o,none⟩) (mlt hx)).trans hx⟩
 ·exact (hb.cell (p:=⟨b',o,none⟩) (mlt hx)).trans hx
def Spot.ok(s:Spot)(w:World):Prop:=(if s.tx then ∃x,w.cell? s.at=some (.string x) else ∃x,w.cell? s.at=some (.int .i64 x))/\w.frozen? s.at=false
theorem Spot.ok_lt{s:Spot}{w:World}(h:s.ok w):s.b<w.heap.size:=by
 obtain⟨h,-⟩:=h
 cases ht:s.tx with
 | true=>rw[ht]at h;obtain⟨x,a⟩:=h;exact mlt (o:=s.o) a
 | false=>rw[ht]at h;obtain⟨x,a⟩:=h;exact mlt (o:=s.o) a
theorem Spot.ok_sim{s:Spot}{w w':World}(h:s.ok w)(hs:Sim w w'):s.ok w':=by
 have c:=Spot.ok_lt h
 obtain⟨a,e⟩:=h
 refine⟨?_,(hs.fz s.b s.o c).trans e⟩
 cases ht:s.tx with
 | true=>
  rw[ht]at a
  obtain⟨x,d⟩:=a
  exact hs.str s.b s.o x d
 | false=>
  rw[ht]at a
  obtain⟨x,d⟩:=a
  exact hs.int s.b s.o x d
theorem xcJ{w:World}{s:Spot}(h:s.ok w)(k:Int):Sim w (w.setCell s.at (s.val k)):=by
 obtain⟨d,-⟩:=h
 have other:∀b o v,s.at≠⟨b,o,none⟩->w.cell? ⟨b,o,none⟩=some v->(w.setCell s.at (s.val k)).cell? ⟨b,o,none⟩=some v:=fun b o v he a=>(World.cell?_setCell_other _ _ _ _ he).trans a
 cases ht:s.tx with
 | true=>
  rw[ht]at d
  obtain⟨u,c⟩:=d
  have a:s.val k=.string (mt k):=by simp[Spot.val,ht]
  refine⟨fun b o x hx=>?_,fun b o x hx=>?_,fun b o _ _ _ hx=>?_,fun b o _=>World.frozen?_setCell _ _ _ _,by simp⟩
  ·exact⟨x,other b o _ (fun e=>by rw[<- e,c]at hx;cases hx) hx⟩
  ·by_cases e:s.at=⟨b,o,none⟩
   ·rw[<- e]at hx ⊢
    exact⟨_,(World.cell?_setCell_same _ _ _ hx).trans (by rw[a])⟩
   ·exact⟨x,other b o _ e hx⟩
  ·exact other b o _ (fun e=>by rw[<- e,c]at hx;cases hx) hx
 | false=>
  rw[ht]at d
  obtain⟨u,c⟩:=d
  have a:s.val k=.int .i64 k:=by simp[Spot.val,ht]
  refine⟨fun b o x hx=>?_,fun b o x hx=>?_,fun b o _ _ _ hx=>?_,fun b o _=>World.frozen?_setCell _ _ _ _,by simp⟩
  ·by_cases e:s.at=⟨b,o,none⟩
   ·rw[<- e]at hx ⊢
    exact⟨_,(World.cell?_setCell_same _ _ _ hx).trans (by rw[a])⟩
   ·exact⟨x,other b o _ e hx⟩
  ·exact⟨x,other b o _ (fun e=>by rw[<- e,c]at hx;cases hx) hx⟩
  ·exact other b o _ (fun e=>by rw[<- e,c]at hx;cases hx) hx
theorem qsC:∀(L:List Spot){w:World}(_:∀s,s∈L->s.ok w)(k:Int),Sim w (qbE w L k):=by
 intro L
 induction L with
 | nil=>intro w _ k;exact Sim.refl w
 | cons s r ih=>
  intro w h k
  have a:=xcJ (h s (List.mem_cons_self ..)) k
  exact a.trans (ih (fun x hx=>Spot.ok_sim (h x (List.mem_cons_of_mem _ hx)) a) (k+1))
theorem Wrote.sim{L:List Spot}{k:Int}{w w':World}(h:Wrote L k w w')(hL:∀s,s∈L->s.ok w):Sim w w':=by
 have c:=qsC L hL k
 have d:∀b o,b<w.heap.size->w'.cell? ⟨b,o,none⟩=(qbE w L k).cell? ⟨b,o,none⟩:=fun b o hb=>World.cell?_of_block (w:=qbE w L k) (w':=w') (a:=⟨b,o,none⟩) (h.block b hb)
 have e:∀b o,b<w.heap.size->w'.frozen? ⟨b,o,none⟩=(qbE w L k).frozen? ⟨b,o,none⟩:=fun b o hb=>by simp only[World.frozen?,h.block b hb]
 refine⟨fun b o x hx=>?_,fun b o x hx=>?_,fun b o _ _ _ hx=>?_,fun b o hb=>(e b o hb).trans (c.fz b o hb),h.size⟩
 ·rw[d b o (mlt hx)];exact c.int b o x hx
 ·rw[d b o (mlt hx)];exact c.str b o x hx
 ·rw[d b o (mlt hx)];exact c.sl b o _ _ _ hx
def Holds(w:World):List Spot->Int->Prop
 | [],_=>True
 | s :: r,k=>w.cell? s.at=some (s.val k)/\Holds w r (k+1)
theorem xgI:∀ {w:World} {L:List Spot} {k:Int},Holds w L k->∀(i:Nat)(h:i<L.length),w.cell? L[i].at=some (L[i].val (k+i)):=by
 intro w L
 induction L with
 | nil=>intro k _ i h;exact absurd h (Nat.not_lt_zero _)
 | cons s r ih=>
  intro k a i h
  cases i with
  | zero=>simpa using a.1
  | succ i=>
   have:=ih a.2 i (by simpa using h)
   simp only[List.getElem_cons_succ]
   rw[this,show k+1+(i:Int)=k+((i+1:Nat):Int) by omega]
theorem qgR{w:World}:∀ {L M:List Spot} {k:Int},Holds w (L++M) k->Holds w L k/\Holds w M (k+L.length):=by
 intro L
 induction L with
 | nil=>intro M k h;exact⟨trivial,by simpa using h⟩
 | cons s r ih=>
  intro M k h
  obtain⟨a,b⟩:=ih h.2
  exact⟨⟨h.1,a⟩,by simp only[List.length_cons];rw[show k+((r.length+1:Nat):Int)=k+1+(r.length:Int) by omega];exact b⟩
theorem qsD(p:Addr):∀(L:List Spot)(w:World)(k:Int),(∀s,s∈L->s.at≠p)->(qbE w L k).cell? p=w.cell? p:=by
 intro L
 induction L with
 | nil=>intro w k _;rfl
 | cons s r ih=>
  intro w k h
  rw[qbE,ih _ _ (fun x hx=>h x (List.mem_cons_of_mem _ hx)),World.cell?_setCell_other _ _ _ _ (h s (List.mem_cons_self ..))]
theorem qnM:∀(L:List Spot)(w:World)(k:Int),(∀s,s∈L->s.ok w)->L.Pairwise (fun a b=>a.at≠b.at)->Holds (qbE w L k) L k:=by
 intro L
 induction L with
 | nil=>intro w k _ _;trivial
 | cons s r ih=>
  intro w k h g
  have c:=List.pairwise_cons.1 g
  have f:=xcJ (h s (List.mem_cons_self ..)) k
  refine⟨?_,ih _ (k+1) (fun x hx=>Spot.ok_sim (h x (List.mem_cons_of_mem _ hx)) f) c.2⟩
  rw[qbE,qsD _ _ _ _ (fun x hx=>(c.1 x hx).symm)]
  obtain⟨d,-⟩:=h s (List.mem_cons_self ..)
  cases ht:s.tx with
  | true=>rw[ht]at d;obtain⟨u,e⟩:=d;exact World.cell?_setCell_same _ _ _ e
  | false=>rw[ht]at d;obtain⟨u,e⟩:=d;exact World.cell?_setCell_same _ _ _ e
theorem Holds.keep{w w':World}:∀ {L:List Spot} {k:Int},Holds w L k->(∀s,s∈L->w'.cell? s.at=w.cell? s.at)->Holds w' L k:=by
 intro L
 induction L with
 | nil=>intro k _ _;trivial
 | cons s r ih=>intro k h a;exact⟨(a s (List.mem_cons_self ..)).trans h.1,ih h.2 (fun x hx=>a x (List.mem_cons_of_mem _ hx))⟩
theorem xcK(W:World)(N:Nat)(c:UInt8)(h:W.cell? ⟨N,0,none⟩=some (.int .u8 (c.toNat:Int))):(convert 90 9 (.slice (some ⟨N,0,none⟩) 1 1)).run prog W=.ok (.string (bs [c])) W:=
 run_convert_bytes_back (P:=prog) W 90 9 5 ⟨N,0,none⟩ 1 [c] underlying90 underlying5 underlying9 (fun j hj=>by
  match j,hj with
  | 0,_=>exact h)
theorem dig_eq(r:Nat)(h:r<10):(48:Int)+(r:Int)=((UInt8.ofNat (48+r)).toNat:Int):=by
 have:(UInt8.ofNat (48+r)).toNat=48+r:=by simp;omega
 rw[this];omega
theorem xgJ{a b:ByteArray}(h:a=b):Ending.returned (.string a)=.returned (.string b):=by rw[h]
theorem qfQ(k:Int)(w:World)(h0:1<=k)(h1:k<=1000000000):Calls prog 36 #[.int .i64 k] w fun e w'=>e=.returned (.string (mt k))/\Below w.heap.size w w':=by
 have q:Hid ((decM k.toNat).length<=1000000000):=by have:=xgH k.toNat;show _<=_;omega
 go_enter func36,ntmps36
 go_wp2_with fail
 go_loopw [0,3] (fun a b wr=>∃(x:Nat)(acc:List UInt8),a=.int .i64 x/\b=.string (bs acc)/\decM x++acc=decM k.toNat/\x<=1000000000/\Below w.heap.size w wr) (fun a _ _=>(intOf a).toNat)
 case atStart=>exact⟨k.toNat,[],by congr 1;omega,rfl,by simp,by omega,Below.refl _ _⟩
 case round=>
  obtain⟨x,acc,rfl,rfl,f,C,g⟩:=hrel
  have i:acc.length<=1000000000:=by have h:=q.out;rw[<- f]at h;simp at h;omega
  have d:=hidF f
  clear f
  by_cases hx0:0<x
  ·have r:Hid (decM (x / 10)++(UInt8.ofNat (48+x % 10) :: acc)=decM k.toNat):=by
    show _=_
    have h:=d.out
    rw[qwL x (by omega)]at h
    rw[<- h];simp
   have l:∀(W:World)(N:Nat),W.cell? ⟨N,0,none⟩=some (.int .u8 (48+(x:Int) % 10))->(convert 90 9 (.slice (some ⟨N,0,none⟩) 1 1)).run prog W=.ok (.string (bs [UInt8.ofNat (48+x % 10)])) W:=fun W N hN=>by
    refine xcK W N (UInt8.ofNat (48+x % 10)) ?_
    rw[hN,<- dig_eq (x % 10) (by omega),show (((x % 10:Nat)):Int)=(x:Int) % 10 by omega]
   have p:=l (wr.alloc (.cells #[.int .u8 (48+(x:Int) % 10)] 5)) wr.heap.size (by simp[go_sem])
   clear l
   generalize UInt8.ofNat (48+x % 10)=c at *
   have m:Hid (bs [c]++bs acc=bs (c :: acc)):=by show _=_;rw[qaS];rfl
   have s:(bs [c]).size=1:=by rw[qaL];rfl
   have n:(bs acc).size<=1000000000:=by rw[qaL];exact i
   have t:IntKind.i64.wrap ((x:Int) / 10)=(x:Int) / 10:=by rw[IntKind.wrap_i64];omega
   have u:IntKind.i64.wrap ((x:Int) % 10)=(x:Int) % 10:=by rw[IntKind.wrap_i64];omega
   have v:IntKind.i64.wrap (48+(x:Int) % 10)=48+(x:Int) % 10:=by rw[IntKind.wrap_i64];omega
   have y:IntKind.u8.wrap (48+(x:Int) % 10)=48+(x:Int) % 10:=by rw[IntKind.wrap_u8];omega
   have z:(x:Int).tmod 10=(x:Int) % 10:=Int.tmod_eq_emod_of_nonneg (by omega)
   have A:(x:Int).tdiv 10=(x:Int) / 10:=Int.tdiv_eq_ediv_of_nonneg (by omega)
   have B:(0:Int)<(x:Int):=by omega
   have j:=g.alloc g.size (.cells #[.int .u8 (48+(x:Int) % 10)] 5)
   clear d
   go_wp2_with fail
   go_roundw
   case rel=>exact⟨x / 10,c :: acc,by congr 1,by rw[<- m.out],r.out,by omega,j⟩
   case measure=>simp[intOf];omega
  ·have o:x=0:=by omega
   subst o
   have m:Hid (bs [109]++bs acc=mt k):=by
    show _=_
    have h:=d.out
    rw[qsA,List.nil_append]at h
    rw[mt,<- h,qaS];rfl
   have n:(bs acc).size<=1000000000:=by rw[qaL];exact i
   clear d
   go_wp2_with fail
   go_ret
   exact⟨xgJ m.out,g⟩
def SpN(w:World)(v:Value)(L:List Spot):Prop:=
 ∃(ao:Option Addr)(cap:Nat),v=.slice ao L.length cap/\L.length<=maxLen/\(∀i (h:i<L.length),∃b off,ao=some ⟨b,off,none⟩/\L[i]=⟨b,off+i,true⟩)/\∀s,s∈L->s.ok w
theorem SpN.sim{w w':World}{v:Value}{L:List Spot}(h:SpN w v L)(hs:Sim w w'):SpN w' v L:=by
 obtain⟨a,cap,b,c,d,e⟩:=h
 exact⟨a,cap,b,c,d,fun s hsL=>Spot.ok_sim (e s hsL) hs⟩
theorem SpN.ok{w:World}{v:Value}{L:List Spot}(h:SpN w v L):∀s,s∈L->s.ok w:=by
 obtain⟨-,-,-,-,-,a⟩:=h
 exact a
theorem qgS (L:List Spot) (v:Value) (k:Int) (w:World) (h:SpN w v L) (h0:1<=k) (h1:k+L.length<=1000000000) :
  Calls prog 17 #[v,.int .i64 k] w fun e w'=>e=.returned (.int .i64 (k+L.length))/\Wrote L k w w':=by
 obtain⟨H,cap,rfl,D,A,q⟩:=h
 have m:Hid (∀s,s∈L->s.ok w):=q
 clear q
 go_enter func17,ntmps17
 go_wp2_with fail
 go_loopw [1,5] (fun a i wr=>∃j:Nat,j<=L.length/\i=.int .i64 j/\a=.int .i64 (k+j)/\Wrote (L.take j) k w wr) (fun _ i _=>L.length-(intOf i).toNat)
 case atStart=>exact⟨0,Nat.zero_le _,rfl,by simp,by simpa using Wrote.refl k w⟩
 case round=>
  obtain⟨j,I,rfl,rfl,d⟩:=hrel
  by_cases hlt:j<L.length
  ·obtain⟨b,c,rfl,l⟩:=A j hlt
   have f:=d.sim (fun s hs=>m.out s (List.mem_of_mem_take hs))
   have n:=Spot.ok_sim (m.out _ (List.getElem_mem hlt)) f
   rw[l]at n
   obtain⟨⟨x,z⟩,r⟩:=n
   have B:Hid (Calls prog 36 #[.int .i64 (k+j)] wr fun e w'=>e=.returned (.string (mt (k+j)))/\Below wr.heap.size wr w' /\ w'.cell? ⟨b,c+j,none⟩=some (.string x)/\w'.frozen? ⟨b,c+j,none⟩=false):=by
    refine (qfQ (k+j) wr (by omega) (by omega)).mono ?_
    rintro e w' ⟨rfl,t⟩
    exact⟨rfl,t,(t.cell (p:=⟨b,c+j,none⟩) (mlt (o:=c+j) z)).trans z,(t.frozen (p:=⟨b,c+j,none⟩) (mlt (o:=c+j) z)).trans r⟩
   have C:Hid (∀w',Below wr.heap.size wr w'->Wrote (L.take (j+1)) k w (w'.setCell ⟨b,c+j,none⟩ (.string (mt (k+j))))):=by
    intro w' t
    have:=(d.below t).snoc L[j]
    rw[List.take_succ_eq_append_getElem hlt]
    rw[l]at this ⊢
    simpa [Spot.at,Spot.val,List.length_take,Nat.min_eq_left (Nat.le_of_lt hlt)] using this
   clear f d A l z r
   generalize mt (k+j)=tx at *
   go_wp2_with fail
   refine B.out.mono ?_
   rintro e E ⟨rfl,u,F,G⟩
   have y:Hid _:=C.out E u
   clear u B C
   go_wp2_with fail
   go_roundw
   case rel=>exact⟨j+1,by omega,by go_num,by go_num,y.out⟩
   case measure=>simp[intOf];omega
  ·have g:j=L.length:=by omega
   have y:Hid (Wrote L k w wr/\k+(j:Int)=k+(L.length:Int)):=by
    rw[g,List.take_length]at d
    exact⟨d,by rw[g]⟩
   clear g d A
   go_wp2_with fail
   go_ret
   exact⟨qaN y.out.2,y.out.1⟩
theorem qgT (L:List Spot) (v:Value) (k:Int) (w:World) (h:SpN w v L) (hh:Holds w L k) (h0:1<=k) (h1:k+L.length<=1000000000) :
  Calls prog 19 #[v,.int .i64 k] w fun e w'=>e=.returned (.int .i64 (k+L.length))/\Below w.heap.size w w':=by
 obtain⟨C,cap,rfl,u,s,-⟩:=h
 have x:Hid (Holds w L k):=hh
 clear hh
 go_enter func19,ntmps19
 go_wp2_with fail
 go_loopw [1,5] (fun a i wr=>∃j:Nat,j<=L.length/\i=.int .i64 j/\a=.int .i64 (k+j)/\Below w.heap.size w wr) (fun _ i _=>L.length-(intOf i).toNat)
 case atStart=>exact⟨0,Nat.zero_le _,rfl,by simp,Below.refl _ _⟩
 case round=>
  obtain⟨j,D,rfl,rfl,c⟩:=hrel
  by_cases hlt:j<L.length
  ·obtain⟨b,d,rfl,l⟩:=s j hlt
   have n:=xgI x.out j hlt
   rw[l]at n
   have f:w.cell? ⟨b,d+j,none⟩=some (.string (mt (k+j))):=by simpa [Spot.at,Spot.val] using n
   have t:=(c.cell (p:=⟨b,d+j,none⟩) (mlt f)).trans f
   have q:=c.size
   have y:Hid (Calls prog 36 #[.int .i64 (k+j)] wr.drew fun e w'=>e=.returned (.string (mt (k+j)))/\Below wr.heap.size wr w' /\ w'.cell? ⟨b,d+j,none⟩=some (.string (mt (k+j)))):=by
    refine (qfQ (k+j) wr.drew (by omega) (by omega)).mono ?_
    rintro e w' ⟨rfl,A⟩
    have g:Below wr.heap.size wr w':=((Below.refl _ _).drew).trans A
    exact⟨rfl,g,(g.cell (p:=⟨b,d+j,none⟩) (mlt (o:=d+j) t)).trans t⟩
   clear s l n f
   generalize mt (k+j)=tx at *
   go_wp2_with fail
   go_region_law (go_simp;go_at_call 36;refine y.out.mono ?_;rintro e E ⟨rfl,m,B⟩)
   all_goals
    have r:=qaA c q m
    clear m
    go_wp2_with fail
    go_roundw
    case rel=>exact⟨j+1,by omega,by go_num,by go_num,r⟩
    case measure=>simp[intOf];omega
  ·have z:Hid (k+(j:Int)=k+(L.length:Int)):=by show _=_;omega
   clear s
   go_wp2_with fail
   go_ret
   exact⟨qaN z.out,c⟩
theorem SpN.slice{w:World}{v:Value}{L:List Spot}(h:SpN w v L):∃a l c,v=.slice a l c:=by
 obtain⟨d,cap,b,-⟩:=h;exact⟨_,_,_,b⟩
theorem qkO{α:Type}(Ls:List (List α))(j:Nat)(h:j<Ls.length):(Ls.take (j+1)).flatten=(Ls.take j).flatten++Ls[j]:=by
 rw[List.take_succ_eq_append_getElem h,List.flatten_append,List.flatten_cons,List.flatten_nil,List.append_nil]
theorem qgN{α:Type}(Ls:List (List α))(j:Nat):(Ls.take j).flatten.length<=Ls.flatten.length:=by
 have h:(Ls.take j++Ls.drop j).flatten.length=Ls.flatten.length:=by rw[List.take_append_drop]
 rw[List.flatten_append,List.length_append]at h
 omega
theorem Wrote.snocI{L:List Spot}{k kk:Int}{w w1:World}(h:Wrote L k w w1)(s:Spot)(hk:kk=k+L.length)(p:Addr)(v:Value)(hp:p=s.at)(hv:v=s.val kk):Wrote (L++[s]) k w (w1.setCell p v):=by
 subst hk hp hv;exact h.snoc s
theorem SpN.below{w w':World}{v:Value}{L:List Spot}(h:SpN w v L)(hb:Below w.heap.size w w'):SpN w' v L:=h.sim ((Sim.refl w).below hb)
theorem Holds.below{w w':World}{L:List Spot}{k:Int}(h:Holds w L k)(hL:∀s,s∈L->s.ok w)(hb:Below w.heap.size w w'):Holds w' L k:=
 h.keep (fun s hs=>hb.cell (p:=s.at) (Spot.ok_lt (hL s hs)))
theorem qyE{w:World}{Ls:List (List Spot)}{k:Int}(h:Holds w Ls.flatten k)(j:Nat)(hj:j<Ls.length):Holds w Ls[j] (k+((Ls.take j).flatten.length:Int)):=by
 have e:Ls.flatten=(Ls.take j).flatten++(Ls[j]++(Ls.drop (j+1)).flatten):=by
  have:=List.take_append_drop j Ls
  rw[<- List.flatten_cons,<- List.flatten_append,<- List.drop_eq_getElem_cons hj,this]
 rw[e]at h
 exact (qgR (qgR h).2).1
def SpK(w:World):Nat->Value->List Spot->Prop
 | 0,v,L=>∃ao cap,v=.slice ao 0 cap/\L=[]
 | n + 1, v, L => ∃ (ao : Option Addr) (cap : Nat) (Ls : List (List Spot)), v = .slice ao Ls.length cap /\ Ls.length <= maxLen /\ L = Ls.flatten /\
   ∀i (h:i<Ls.length),∃b off c3 c4 L3 L4,ao=some ⟨b,off,none⟩/\Ls[i]=[⟨b,off+i*3,false⟩]++(L3++L4)/\(⟨b,off+i*3,false⟩:Spot).ok w /\
    w.cell? ⟨b,off+i*3+1,none⟩=some c3/\w.cell? ⟨b,off+i*3+2,none⟩=some c4/\SpN w c3 L3/\SpK w n c4 L4
theorem SpK.slice{w:World}:∀ {n:Nat} {v:Value} {L:List Spot},SpK w n v L->∃a l c,v=.slice a l c:=by
 intro n
 cases n with
 | zero=>rintro v L ⟨d,cap,b,-⟩;exact⟨_,_,_,b⟩
 | succ n=>rintro v L ⟨d,cap,e,b,-⟩;exact⟨_,_,_,b⟩
theorem SpK.sim{w w':World}(hs:Sim w w'):∀ {n:Nat} {v:Value} {L:List Spot},SpK w n v L->SpK w' n v L:=by
 intro n
 induction n with
 | zero=>intro v L h;exact h
 | succ n ih=>
  rintro v L ⟨k,cap,m,o,p,q,r⟩
  refine⟨k,cap,m,o,p,q,fun i h=>?_⟩
  obtain⟨b,d,c3,c4,L3,L4,s,e,f,t,u,g,j⟩:=r i h
  refine⟨b,d,c3,c4,L3,L4,s,e,Spot.ok_sim f hs,?_,?_,g.sim hs,ih j⟩
  ·obtain⟨a,l,c,rfl⟩:=g.slice;exact hs.sl _ _ _ _ _ t
  ·obtain⟨a,l,c,rfl⟩:=j.slice;exact hs.sl _ _ _ _ _ u
theorem SpK.below{w w':World}{n:Nat}{v:Value}{L:List Spot}(h:SpK w n v L)(hb:Below w.heap.size w w'):SpK w' n v L:=h.sim ((Sim.refl w).below hb)
def Own(P:Nat->Prop)(L:List Spot):Prop:=(∀s,s∈L->P s.b)/\L.Pairwise (fun a b=>a.at≠b.at)
theorem Own.nil(P:Nat->Prop):Own P []:=⟨fun _ h=>(by cases h),List.Pairwise.nil⟩
theorem Own.mono{P Q:Nat->Prop}{L:List Spot}(h:Own P L)(hq:∀b,P b->Q b):Own Q L:=⟨fun s hs=>hq _ (h.1 s hs),h.2⟩
theorem at_ne{a b:Spot}(h:a.b≠b.b):a.at≠b.at:=fun e=>h (by simpa [Spot.at] using congrArg Addr.block e)
theorem Own.app{P Q R:Nat->Prop}{L M:List Spot}(h:Own P L)(k:Own Q M)(hp:∀b,P b->R b)(hq:∀b,Q b->R b)(hd:∀b,P b->Q b->False):Own R (L++M):=by
 refine⟨fun s hs=>?_,List.pairwise_append.2 ⟨h.2,k.2,fun a ha b hb=>at_ne fun e=>hd a.b (h.1 a ha) (by rw[e];exact k.1 b hb)⟩⟩
 rcases List.mem_append.1 hs with c|c
 ·exact hp _ (h.1 s c)
 ·exact hq _ (k.1 s c)
theorem Spot.ok_same{s:Spot}{w w':World}(h:s.ok w)(hb:w'.heap[s.b]?=w.heap[s.b]?):s.ok w':=by
 have c:w'.cell? s.at=w.cell? s.at:=World.cell?_of_block (w:=w) (w':=w') (a:=s.at) hb
 have d:w'.frozen? s.at=w.frozen? s.at:=by
  have:w'.heap[s.at.block]?=w.heap[s.at.block]?:=hb
  simp only[World.frozen?,this]
 unfold Spot.ok
 rw[c,d];exact h
theorem SpN.same{w w':World}{v:Value}{L:List Spot}(h:SpN w v L)(hb:∀s,s∈L->w'.heap[s.b]?=w.heap[s.b]?):SpN w' v L:=by
 obtain⟨a,cap,c,d,e,f⟩:=h
 exact⟨a,cap,c,d,e,fun s hs=>Spot.ok_same (f s hs) (hb s hs)⟩
theorem SpN.no(w:World):SpN w (.slice none 0 0) []:=⟨none,0,rfl,by simp[maxLen],fun i h=>absurd h (Nat.not_lt_zero _),fun _ h=>(by cases h)⟩
theorem qhY{w:World}{M:Nat}{e:TypeId}{v:Value}{l:List ByteArray}(h:w.ownsRow M e 1 v l.length (l.map .string))(hl:l.length<=20000):∃L,SpN w v L/\L.length=l.length/\Own (fun b=>v.ownBlock=some b) L:=by
 rcases id h.2 with ⟨rfl,j⟩|⟨g,cap,k,rfl,m,n,o,p,q,d⟩
 ·exact⟨[],SpN.no w,by rw[j];rfl,Own.nil _⟩
 ·refine⟨(List.range l.length).map (fun i=>(⟨g,0+i,true⟩:Spot)),⟨_,cap,by rw[List.length_map,List.length_range],by simp[maxLen];omega,fun i f=>⟨g,0,rfl,by simp⟩,fun s hs=>?_⟩,by simp,fun s hs=>?_,?_⟩
  ·obtain⟨i,f,rfl⟩:=List.mem_map.1 hs
   have c:=List.mem_range.1 f
   have:=h.cells (g:=g) rfl i (.string l[i]) (by simp[c])
   rw[Addr.add_lit]at this
   exact⟨⟨l[i],this⟩,by simp[World.frozen?,Spot.at,n]⟩
  ·obtain⟨i,f,rfl⟩:=List.mem_map.1 hs
   rfl
  ·refine List.pairwise_map.2 (List.Pairwise.imp (fun {a b} hab e=>?_) List.pairwise_lt_range)
   have:0+a=0+b:=by simpa [Spot.at] using congrArg Addr.off e
   omega
theorem SpK.same{w w':World}:∀ {n:Nat} {v:Value} {L:List Spot},SpK w n v L->(∀s,s∈L->w'.heap[s.b]?=w.heap[s.b]?)->SpK w' n v L:=by
 intro n
 induction n with
 | zero=>intro v L h _;exact h
 | succ n ih=>
  rintro v L ⟨k,cap,j,l,m,rfl,o⟩ p
  refine⟨k,cap,j,l,m,rfl,fun i h=>?_⟩
  obtain⟨b,c,c3,c4,L3,L4,q,e,g,r,t,u,x⟩:=o i h
  have f:∀s,s∈j[i]->w'.heap[s.b]?=w.heap[s.b]?:=fun s hs=>p s (List.mem_flatten.2 ⟨_,List.getElem_mem h,hs⟩)
  rw[e]at f
  have d:w'.heap[b]?=w.heap[b]?:=f ⟨b,c+i*3,false⟩ (by simp)
  refine⟨b,c,c3,c4,L3,L4,q,e,Spot.ok_same g d,?_,?_,u.same (fun s hs=>f s (by simp[hs])),ih x (fun s hs=>f s (by simp[hs]))⟩
  ·exact (World.cell?_of_block (w:=w) (w':=w') (a:=⟨b,c+i*3+1,none⟩) d).trans r
  ·exact (World.cell?_of_block (w:=w) (w':=w') (a:=⟨b,c+i*3+2,none⟩) d).trans t
theorem SpK.no(w:World)(n:Nat):SpK w n (.slice none 0 0) []:=by
 cases n with
 | zero=>exact⟨none,0,rfl,rfl⟩
 | succ n=>exact⟨none,0,[],rfl,by simp[maxLen],rfl,fun i h=>absurd h (Nat.not_lt_zero _)⟩
def qlE(P:Nat->Prop)(w:World)(n:Nat)(ks:List (K n))(xs:List Value)(Ps:List (List Spot)):Prop:=
 Own P Ps.flatten/\∀j (h:j<ks.length) (hp:j<Ps.length),∃c0 c1 c2 L3 L4,(xs[j*3]?=some c0/\xs[j*3+1]?=some c1/\xs[j*3+2]?=some c2)/\Ps[j]=L3++L4 /\
  KindIn P w n ks[j] c0 c1 c2/\SpN w c1 L3/\SpK w (n-1) c2 L4
theorem quO {n:Nat} {w:World} {M:Nat} {e:TypeId} {v:Value} {l:List (K n)} {xs:List Value} {Ps:List (List Spot)} {P:Nat->Prop} (h:w.ownsRow M e 3 v l.length xs) (hl:l.length<=20000) (hlp:Ps.length=l.length) (hk:qlE P w n l xs Ps) (hP:∀ b,P b->v.ownBlock≠some b) :
  ∃L,SpK w n v L/\Own (fun b=>P b∨v.ownBlock=some b) L/\L.length=l.length+Ps.flatten.length:=by
 rcases id h.2 with ⟨rfl,B⟩|⟨g,cap,N,rfl,O,Q,R,S,T,E⟩
 ·have:Ps=[]:=List.eq_nil_of_length_eq_zero (by omega)
  subst this
  exact⟨[],SpK.no w n,Own.nil _,by simp[B]⟩
 ·have C:∀ (i:Nat),i<l.length->n≠0:=by
   intro i c U
   subst U
   obtain⟨c0,c1,c2,L3,L4,-,-,F,-⟩:=hk.2 i c (by omega)
   exact F.elim
  have r:∀i (c:i<l.length),((List.range l.length).map (fun i=>([⟨g,0+i*3,false⟩]:List Spot)++Ps.getD i []))[i]'(by simpa using c)=([⟨g,0+i*3,false⟩]:List Spot)++Ps[i]'(by omega):=by
   intro i c
   have:i<Ps.length:=by omega
   simp[List.getD,this]
  have t:Own (fun b=>P b∨(Value.slice (some ⟨g,0,none⟩) l.length cap).ownBlock=some b) ((List.range l.length).map (fun i=>([⟨g,0+i*3,false⟩]:List Spot)++Ps.getD i [])).flatten:=by
   have y:=List.pairwise_flatten.1 hk.1.2
   have k:∀i s,s∈Ps.getD i []->P s.b:=fun i s hs=>by
    by_cases c:i<Ps.length
    ·rw[List.getD_eq_getElem?_getD,List.getElem?_eq_getElem c,Option.getD_some]at hs
     exact hk.1.1 s (List.mem_flatten.2 ⟨_,List.getElem_mem c,hs⟩)
    ·rw[List.getD_eq_getElem?_getD,List.getElem?_eq_none (by omega)]at hs;cases hs
   have q:∀o (s:Spot),s∈([⟨g,o,false⟩]:List Spot)->s.b=g/\s.o=o:=fun o s hs=>by
    rw[List.mem_singleton]at hs;subst hs;exact⟨rfl,rfl⟩
   have p:∀(s:Spot),P s.b->s.b≠g:=fun s hs e=>hP g (by rw[<- e];exact hs) rfl
   refine⟨fun s hs=>?_,List.pairwise_flatten.2 ⟨fun x G=>?_,?_⟩⟩
   ·obtain⟨x,G,H⟩:=List.mem_flatten.1 hs
    obtain⟨i,c,rfl⟩:=List.mem_map.1 G
    rcases List.mem_append.1 H with d|d
    ·right;rw[(q _ s d).1];rfl
    ·left;exact k i s d
   ·obtain⟨i,c,rfl⟩:=List.mem_map.1 G
    refine List.pairwise_append.2 ⟨List.pairwise_singleton _ _,?_,fun a ha b hb=>at_ne fun e=>p b (k i b hb) (by rw[<- e,(q _ a ha).1])⟩
    by_cases c:i<Ps.length
    ·rw[List.getD_eq_getElem?_getD,List.getElem?_eq_getElem c,Option.getD_some]
     exact y.1 _ (List.getElem_mem c)
    ·rw[List.getD_eq_getElem?_getD,List.getElem?_eq_none (by omega)];exact List.Pairwise.nil
   ·refine List.pairwise_map.2 (List.Pairwise.imp (fun {i j} hij a ha b hb=>?_) List.pairwise_lt_range)
    rcases List.mem_append.1 ha with d|d
    ·rcases List.mem_append.1 hb with f|f
     ·intro e
      have e':a.o=b.o:=by simpa [Spot.at] using congrArg Addr.off e
      have q1:=(q _ a d).2
      have q2:=(q _ b f).2
      omega
     ·exact at_ne fun e=>p b (k j b f) (by rw[<- e,(q _ a d).1])
    ·rcases List.mem_append.1 hb with f|f
     ·exact at_ne fun e=>p a (k i a d) (by rw[e,(q _ b f).1])
     ·by_cases hj:j<Ps.length
      ·rw[List.getD_eq_getElem?_getD,List.getElem?_eq_getElem hj,Option.getD_some]at f
       rw[List.getD_eq_getElem?_getD,List.getElem?_eq_getElem (by omega:i<Ps.length),Option.getD_some]at d
       exact (List.pairwise_iff_getElem.1 y.2) i j (by omega) hj hij a d b f
      ·rw[List.getD_eq_getElem?_getD,List.getElem?_eq_none (by omega)]at f;cases f
  have z:((List.range l.length).map (fun i=>([⟨g,0+i*3,false⟩]:List Spot)++Ps.getD i [])).flatten.length=l.length+Ps.flatten.length:=by
   have e:Ps=(List.range l.length).map (fun i=>Ps.getD i []):=by
    refine List.ext_getElem (by simp[hlp]) fun i d f=>?_
    simp[List.getD,d]
   conv=>rhs;rw[e]
   generalize l.length=m
   induction m with
   | zero=>rfl
   | succ m ih=>
    rw[List.range_succ,List.map_append,List.flatten_append,List.length_append,ih,List.map_append,List.flatten_append,List.length_append]
    simp;omega
  refine⟨_,?_,t,z⟩
  cases n with
  | zero=>
   have B:l.length=0:=Nat.eq_zero_of_not_pos fun hpos=>C 0 hpos rfl
   exact⟨some ⟨g,0,none⟩,cap,by rw[B],by rw[B];rfl⟩
  | succ m=>
   refine⟨some ⟨g,0,none⟩,cap,_,by rw[List.length_map,List.length_range],by simp[maxLen];omega,rfl,fun i c=>?_⟩
   have A:i<l.length:=by simpa using c
   obtain⟨c0,c1,c2,L3,L4,⟨V,W,X⟩,I,F,Y,Z⟩:=hk.2 i A (by omega)
   have D:∀j u,xs[j]?=some u->w.cell? ⟨g,0+j,none⟩=some u:=fun j u hu=>by
    have:=h.cells (g:=g) rfl j u hu
    rwa [Addr.add_lit]at this
   obtain⟨rfl,-⟩:=F
   have J:∀o,w.frozen? ⟨g,o,none⟩=false:=fun o=>by simp[World.frozen?,Q]
   exact⟨g,0,c1,c2,L3,L4,rfl,by rw[r i A,I],⟨⟨_,D _ _ V⟩,J _⟩,D _ _ W,D _ _ X,Y,Z⟩
theorem qnO{b:Nat}:∀(L:List Spot)(w:World)(k:Int),(∀s,s∈L->s.b≠b)->(qbE w L k).heap[b]?=w.heap[b]?:=by
 intro L
 induction L with
 | nil=>intro w k _;rfl
 | cons s r ih=>
  intro w k h
  rw[qbE,ih _ _ (fun x hx=>h x (List.mem_cons_of_mem _ hx))]
  exact Below.heap_setCell _ _ _ _ (fun e=>h s (List.mem_cons_self ..) e.symm)
theorem Wrote.other{L:List Spot}{k:Int}{w w':World}(h:Wrote L k w w'){b:Nat}(hb:b<w.heap.size)(hL:∀s,s∈L->s.b≠b):w'.heap[b]?=w.heap[b]?:=(h.block b hb).trans (qnO L w k hL)
theorem Wrote.below_of{L:List Spot}{k:Int}{M:Nat}{a w w':World}(h:Below M a w)(hM:M<=w.heap.size)(hw:Wrote L k w w')(hL:∀s,s∈L->M<=s.b):Below M a w':=
 ⟨hw.os.trans h.os,hw.tape.trans h.tape,hw.output.trans h.output,Nat.le_trans h.size hw.size,fun b hb=>(hw.other (by omega) (fun s hs=>by have:=hL s hs;omega)).trans (h.block b hb)⟩
theorem Wrote.holds{L:List Spot}{k:Int}{w w':World}(h:Wrote L k w w')(hok:∀s,s∈L->s.ok w)(hp:L.Pairwise (fun a b=>a.at≠b.at)):Holds w' L k:=
 (qnM L w k hok hp).keep (fun s hs=>World.cell?_of_block (w:=qbE w L k) (w':=w') (a:=s.at) (h.block s.b (Spot.ok_lt (hok s hs))))
def sp5(b o:Nat):List Spot:=[⟨b,o,false⟩,⟨b,o+1,false⟩,⟨b,o+2,true⟩]
def SpR(w:World):Nat->Value->List Spot->Prop
 | 0,v,L=>∃ao cap,v=.slice ao 0 cap/\L=[]
 | n + 1, v, L => ∃ (ao : Option Addr) (cap : Nat) (Ls : List (List Spot)), v = .slice ao Ls.length cap /\ Ls.length <= maxLen /\ L = Ls.flatten /\
   ∀i (h:i<Ls.length),∃b off c3 c4 L3 L4,ao=some ⟨b,off,none⟩/\Ls[i]=sp5 b (off+i*5)++(L3++L4)/\(∀s,s∈sp5 b (off+i*5)->s.ok w) /\
    w.cell? ⟨b,off+i*5+3,none⟩=some c3/\w.cell? ⟨b,off+i*5+4,none⟩=some c4/\SpN w c3 L3/\SpR w n c4 L4
theorem SpR.slice{w:World}:∀ {n:Nat} {v:Value} {L:List Spot},SpR w n v L->∃a l c,v=.slice a l c:=by
 intro n
 cases n with
 | zero=>rintro v L ⟨d,cap,b,-⟩;exact⟨_,_,_,b⟩
 | succ n=>rintro v L ⟨d,cap,e,b,-⟩;exact⟨_,_,_,b⟩
theorem SpR.sim{w w':World}(hs:Sim w w'):∀ {n:Nat} {v:Value} {L:List Spot},SpR w n v L->SpR w' n v L:=by
 intro n
 induction n with
 | zero=>intro v L h;exact h
 | succ n ih=>
  rintro v L ⟨k,cap,m,o,p,q,r⟩
  refine⟨k,cap,m,o,p,q,fun i h=>?_⟩
  obtain⟨b,d,c3,c4,L3,L4,t,e,f,u,x,g,j⟩:=r i h
  refine⟨b,d,c3,c4,L3,L4,t,e,fun s hs'=>Spot.ok_sim (f s hs') hs,?_,?_,g.sim hs,ih j⟩
  ·obtain⟨a,l,c,rfl⟩:=g.slice;exact hs.sl _ _ _ _ _ u
  ·obtain⟨a,l,c,rfl⟩:=j.slice;exact hs.sl _ _ _ _ _ x
theorem SpR.ok{w:World}:∀ {n:Nat} {v:Value} {L:List Spot},SpR w n v L->∀s,s∈L->s.ok w:=by
 intro n
 induction n with
 | zero=>rintro v L ⟨j,cap,k,rfl⟩ s d;cases d
 | succ n ih=>
  rintro v L ⟨j,cap,q,k,r,rfl,l⟩ s d
  obtain⟨t,c,a⟩:=List.mem_flatten.1 d
  obtain⟨i,h,rfl⟩:=List.getElem_of_mem c
  obtain⟨b,m,c3,c4,L3,L4,u,c,e,x,y,o,p⟩:=l i h
  rw[c]at a
  rcases List.mem_append.1 a with f|f
  ·exact e s f
  ·rcases List.mem_append.1 f with g|g
   ·exact o.ok s g
   ·exact ih p s g
theorem SpR.below{w w':World}{n:Nat}{v:Value}{L:List Spot}(h:SpR w n v L)(hb:Below w.heap.size w w'):SpR w' n v L:=h.sim ((Sim.refl w).below hb)
def spL:(n:Nat)->T n->Nat
 | 0,_=>0
 | n+1,t=>(Nd.names t).length+sumL (fun k=>3+spL n k) (Nd.kids t)
theorem SpR.same{w w':World}:∀ {n:Nat} {v:Value} {L:List Spot},SpR w n v L->(∀s,s∈L->w'.heap[s.b]?=w.heap[s.b]?)->SpR w' n v L:=by
 intro n
 induction n with
 | zero=>intro v L h _;exact h
 | succ n ih=>
  rintro v L ⟨k,cap,j,l,m,rfl,o⟩ p
  refine⟨k,cap,j,l,m,rfl,fun i h=>?_⟩
  obtain⟨b,c,c3,c4,L3,L4,q,f,g,r,t,u,x⟩:=o i h
  have d:∀s,s∈j[i]->w'.heap[s.b]?=w.heap[s.b]?:=fun s hs=>p s (List.mem_flatten.2 ⟨_,List.getElem_mem h,hs⟩)
  rw[f]at d
  have e:w'.heap[b]?=w.heap[b]?:=d ⟨b,c+i*5,false⟩ (by simp[sp5])
  refine⟨b,c,c3,c4,L3,L4,q,f,fun s hs=>Spot.ok_same (g s hs) (d s (by simp[hs])),?_,?_,u.same (fun s hs=>d s (by simp[hs])),ih x (fun s hs=>d s (by simp[hs]))⟩
  ·exact (World.cell?_of_block (w:=w) (w':=w') (a:=⟨b,c+i*5+3,none⟩) e).trans r
  ·exact (World.cell?_of_block (w:=w) (w':=w') (a:=⟨b,c+i*5+4,none⟩) e).trans t
theorem SpR.no(w:World)(n:Nat):SpR w n (.slice none 0 0) []:=by
 cases n with
 | zero=>exact⟨none,0,rfl,rfl⟩
 | succ n=>exact⟨none,0,[],rfl,by simp[maxLen],rfl,fun i h=>absurd h (Nat.not_lt_zero _)⟩
def qqF(P:Nat->Prop)(w:World)(n:Nat)(ks:List (T n))(xs:List Value)(Ps:List (List Spot)):Prop:=
 Own P Ps.flatten/\∀j (h:j<ks.length) (hp:j<Ps.length),∃c0 c1 c2 c3 c4 L3 L4,(xs[j*5]?=some c0/\xs[j*5+1]?=some c1/\xs[j*5+2]?=some c2/\xs[j*5+3]?=some c3/\xs[j*5+4]?=some c4)/\Ps[j]=L3++L4 /\
  TreeIn P w n ks[j] c0 c1 c2 c3 c4/\SpN w c3 L3/\SpR w (n-1) c4 L4
theorem quW {n:Nat} {w:World} {M:Nat} {e:TypeId} {v:Value} {l:List (T n)} {xs:List Value} {Ps:List (List Spot)} {P:Nat->Prop} (h:w.ownsRow M e 5 v l.length xs) (hl:l.length<=20000) (hlp:Ps.length=l.length) (hk:qqF P w n l xs Ps) (hP:∀ b,P b->v.ownBlock≠some b) :
  ∃L,SpR w n v L/\Own (fun b=>P b∨v.ownBlock=some b) L/\L.length=3*l.length+Ps.flatten.length:=by
 rcases id h.2 with ⟨rfl,C⟩|⟨g,cap,K,rfl,N,O,Q,R,S,F⟩
 ·have:Ps=[]:=List.eq_nil_of_length_eq_zero (by omega)
  subst this
  exact⟨[],SpR.no w n,Own.nil _,by simp[C]⟩
 ·have D:∀ (i:Nat),i<l.length->n≠0:=by
   intro i c U
   subst U
   obtain⟨c0,c1,c2,c3,c4,L3,L4,-,-,G,-⟩:=hk.2 i c (by omega)
   exact G.elim
  have r:∀i (c:i<l.length),((List.range l.length).map (fun i=>sp5 g (0+i*5)++Ps.getD i []))[i]'(by simpa using c)=sp5 g (0+i*5)++Ps[i]'(by omega):=by
   intro i c
   have:i<Ps.length:=by omega
   simp[List.getD,this]
  have t:Own (fun b=>P b∨(Value.slice (some ⟨g,0,none⟩) l.length cap).ownBlock=some b) ((List.range l.length).map (fun i=>sp5 g (0+i*5)++Ps.getD i [])).flatten:=by
   have y:=List.pairwise_flatten.1 hk.1.2
   have k:∀i s,s∈Ps.getD i []->P s.b:=fun i s hs=>by
    by_cases c:i<Ps.length
    ·rw[List.getD_eq_getElem?_getD,List.getElem?_eq_getElem c,Option.getD_some]at hs
     exact hk.1.1 s (List.mem_flatten.2 ⟨_,List.getElem_mem c,hs⟩)
    ·rw[List.getD_eq_getElem?_getD,List.getElem?_eq_none (by omega)]at hs;cases hs
   have q:∀o (s:Spot),s∈sp5 g o->s.b=g/\o<=s.o/\s.o<=o+2:=fun o s hs=>by
    simp only[sp5,List.mem_cons,List.not_mem_nil,or_false]at hs
    rcases hs with rfl|rfl|rfl<;>exact⟨rfl,by simp,by simp⟩
   have p:∀(s:Spot),P s.b->s.b≠g:=fun s hs e=>hP g (by rw[<- e];exact hs) rfl
   refine⟨fun s hs=>?_,List.pairwise_flatten.2 ⟨fun x H=>?_,?_⟩⟩
   ·obtain⟨x,H,I⟩:=List.mem_flatten.1 hs
    obtain⟨i,c,rfl⟩:=List.mem_map.1 H
    rcases List.mem_append.1 I with d|d
    ·right;rw[(q _ s d).1];rfl
    ·left;exact k i s d
   ·obtain⟨i,c,rfl⟩:=List.mem_map.1 H
    refine List.pairwise_append.2 ⟨?_,?_,fun a ha b hb=>at_ne fun e=>p b (k i b hb) (by rw[<- e,(q _ a ha).1])⟩
    ·simp[sp5,Spot.at]
    ·by_cases c:i<Ps.length
     ·rw[List.getD_eq_getElem?_getD,List.getElem?_eq_getElem c,Option.getD_some]
      exact y.1 _ (List.getElem_mem c)
     ·rw[List.getD_eq_getElem?_getD,List.getElem?_eq_none (by omega)];exact List.Pairwise.nil
   ·refine List.pairwise_map.2 (List.Pairwise.imp (fun {i j} hij a ha b hb=>?_) List.pairwise_lt_range)
    rcases List.mem_append.1 ha with d|d
    ·rcases List.mem_append.1 hb with f|f
     ·intro e
      have e':a.o=b.o:=by simpa [Spot.at] using congrArg Addr.off e
      have q1:=(q _ a d).2.2
      have q2:=(q _ b f).2.1
      omega
     ·exact at_ne fun e=>p b (k j b f) (by rw[<- e,(q _ a d).1])
    ·rcases List.mem_append.1 hb with f|f
     ·exact at_ne fun e=>p a (k i a d) (by rw[e,(q _ b f).1])
     ·by_cases hj:j<Ps.length
      ·rw[List.getD_eq_getElem?_getD,List.getElem?_eq_getElem hj,Option.getD_some]at f
       rw[List.getD_eq_getElem?_getD,List.getElem?_eq_getElem (by omega:i<Ps.length),Option.getD_some]at d
       exact (List.pairwise_iff_getElem.1 y.2) i j (by omega) hj hij a d b f
      ·rw[List.getD_eq_getElem?_getD,List.getElem?_eq_none (by omega)]at f;cases f
  have z:((List.range l.length).map (fun i=>sp5 g (0+i*5)++Ps.getD i [])).flatten.length=3*l.length+Ps.flatten.length:=by
   have e:Ps=(List.range l.length).map (fun i=>Ps.getD i []):=by
    refine List.ext_getElem (by simp[hlp]) fun i d f=>?_
    simp[List.getD,d]
   conv=>rhs;rw[e]
   generalize l.length=m
   induction m with
   | zero=>rfl
   | succ m ih=>
    rw[List.range_succ,List.map_append,List.flatten_append,List.length_append,ih,List.map_append,List.flatten_append,List.length_append]
    simp[sp5];omega
  refine⟨_,?_,t,z⟩
  cases n with
  | zero=>
   have C:l.length=0:=Nat.eq_zero_of_not_pos fun hpos=>D 0 hpos rfl
   exact⟨some ⟨g,0,none⟩,cap,by rw[C],by rw[C];rfl⟩
  | succ m=>
   refine⟨some ⟨g,0,none⟩,cap,_,by rw[List.length_map,List.length_range],by simp[maxLen];omega,rfl,fun i c=>?_⟩
   have A:i<l.length:=by simpa using c
   obtain⟨c0,c1,c2,c3,c4,L3,L4,⟨V,W,X,Y,Z⟩,J,G,h3,h4⟩:=hk.2 i A (by omega)
   have B:∀j u,xs[j]?=some u->w.cell? ⟨g,0+j,none⟩=some u:=fun j u hu=>by
    have:=h.cells (g:=g) rfl j u hu
    rwa [Addr.add_lit]at this
   obtain⟨rfl,rfl,rfl,-⟩:=G
   refine⟨g,0,c3,c4,L3,L4,rfl,by rw[r i A,J],fun s hs=>?_,B _ _ Y,B _ _ Z,h3,h4⟩
   have E:∀o,w.frozen? ⟨g,o,none⟩=false:=fun o=>by simp[World.frozen?,O]
   simp only[sp5,List.mem_cons,List.not_mem_nil,or_false]at hs
   rcases hs with rfl|rfl|rfl
   ·exact⟨⟨_,B _ _ V⟩,E _⟩
   ·exact⟨⟨_,B _ _ W⟩,E _⟩
   ·exact⟨⟨_,B _ _ X⟩,E _⟩
def qeO:(n:Nat)->T n->Prop
 | 0,_=>False
 | n + 1, t => (Nd.sort t = 1 -> Nd.text t = ByteArray.empty /\ Nd.names t = [] /\ Nd.kids t = []) /\ (Nd.sort t = 2 -> Nd.num t = 0 /\ Nd.names t = [] /\ Nd.kids t = []) /\
   (Nd.sort t=3->Nd.text t=ByteArray.empty/\Nd.names t=[]/\Nd.kids t=[]/\(Nd.num t=0∨Nd.num t=1))/\(Nd.sort t=4->Nd.num t=0/\Nd.text t=ByteArray.empty/\Nd.names t=[]) /\
   (Nd.sort t=5->Nd.num t=0/\Nd.text t=ByteArray.empty)/\(Nd.sort t=6->Nd.num t=0/\Nd.text t=ByteArray.empty/\Nd.names t=[]) /\
   -999999999<=Nd.num t/\Nd.num t<=999999999/\(Nd.text t).size<=10000/\(Nd.names t).length<=10000/\(∀s,s∈Nd.names t->s.size<=10000)/\(Nd.kids t).length<=10000/\∀k,k∈Nd.kids t->qeO n k
theorem Tryz.info_treeO:(prog.info? 67).map (fun i=>(i.zero,i.size,i.bytes))=some (some (.agg #[.int .i64 0,.int .i64 0,.string ⟨#[]⟩,.slice none 0 0,.slice none 0 0]),5,80):=by kernel_rfl
structure OutLoop(M n:Nat)(ks:List (T n))(w1:World)(k:Nat)(v:Value)(wr:World):Prop where
 below:Below M w1 wr
 row:∃xs Ps,wr.ownsRow M 67 5 v k xs/\Ps.length=k/\qqF (fun b=>M<=b/\b<wr.heap.size/\v.ownBlock≠some b) wr n ks xs Ps/\Ps.flatten.length+3*k=sumL (fun x=>3+spL n x) (ks.take k)
theorem xgW {M n:Nat} {ks:List (T n)} {w1 wr w2 w3:World} {k g cap:Nat} {v:Value} {xs:List Value} {Ps:List (List Spot)} {one:Obj} {c0 c1 c2 c3 c4:Value} {L3 L4:List Spot} (h:Below M w1 wr) (hk:k<ks.length) (hMr:M<=wr.heap.size)
  (hown:wr.ownsRow M 67 5 v k xs) (hpl:Ps.length=k) (hko:qqF (fun b=>M<=b/\b<wr.heap.size/\v.ownBlock≠some b) wr n ks xs Ps) (hln:Ps.flatten.length+3*k=sumL (fun x=>3+spL n x) (ks.take k))
  (hb2:Below wr.heap.size wr w2) (hin:TreeIn (fun b=>wr.heap.size<=b/\b<w2.heap.size) w2 n ks[k] c0 c1 c2 c3 c4) (h3:SpN w2 c3 L3) (h4:SpR w2 (n-1) c4 L4) (ho:Own (fun b=>wr.heap.size<=b/\b<w2.heap.size) (L3++L4)) (hl:(L3++L4).length=spL n ks[k])
  (hown':w3.ownsRow M 67 5 (.slice (some ⟨g,0,none⟩) (k+1) cap) (k+1) (xs++[c0,c1,c2,c3,c4])) (hgrow:(w2.alloc one).grownBy w3 v.ownBlock) (hat:v.ownBlock=some g∨g=w2.heap.size+1) :
  OutLoop M n ks w1 (k+1) (.slice (some ⟨g,0,none⟩) (k+1) cap) w3:=by
 have B:=hb2.size
 have o:=hgrow.size
 simp at o
 have i:∀b,v.ownBlock=some b->M<=b/\b<wr.heap.size:=r1_lt hown
 have p:xs.length=k*5:=hown.1
 have q:∀b,b<w2.heap.size->v.ownBlock≠some b->w3.heap[b]?=w2.heap[b]?:=fun b hb hne=>by
  rw[hgrow.block b (by simp;omega) (fun e=>hne e.symm),Below.heap_alloc _ _ _ hb]
 have r:∀b,b<wr.heap.size->v.ownBlock≠some b->w3.heap[b]?=wr.heap[b]?:=fun b hb hno=>by
  rw[q b (by omega) hno,hb2.block b hb]
 have a:∀b,v.ownBlock≠some b->b<w2.heap.size->(Value.slice (some ⟨g,0,none⟩) (k+1) cap).ownBlock≠some b:=by
  intro b t C e
  have e:g=b:=by simpa [Value.ownBlock] using e
  rcases hat with h3|h3
  ·exact t (by rw[h3,e])
  ·omega
 have d:∀b,wr.heap.size<=b->v.ownBlock≠some b:=fun b t e=>by have:=i b e;omega
 refine⟨⟨?_,?_,?_,by have:=h.size;omega,fun b hb=>?_⟩,xs++[c0,c1,c2,c3,c4],Ps++[L3++L4],hown',by simp[hpl],⟨?_,fun j hj hp=>?_⟩,?_⟩
 ·rw[hgrow.os];exact hb2.os.trans h.os
 ·rw[hgrow.tape];exact hb2.tape.trans h.tape
 ·rw[hgrow.output];exact hb2.output.trans h.output
 ·rw[r b (by omega) (fun e=>by have:=i b e;omega)];exact h.block b hb
 ·rw[List.flatten_append,List.flatten_singleton]
  refine hko.1.app ho (fun b hb=>⟨hb.1,by omega,a b hb.2.2 (by omega)⟩) (fun b hb=>⟨by omega,by omega,a b (d b hb.1) hb.2⟩) (fun b t C=>by omega)
 ·by_cases hjk:j<k
  ·have f:j<Ps.length:=by omega
   obtain⟨D,E,F,G,H,z,A,I,m,u,w,y⟩:=hko.2 j hj f
   have c:∀s,s∈z++A->w3.heap[s.b]?=wr.heap[s.b]?:=fun s hs=>by
    have:=hko.1.1 s (List.mem_flatten.2 ⟨_,List.getElem_mem f,by rw[m];exact hs⟩)
    exact r s.b this.2.1 this.2.2
   refine⟨D,E,F,G,H,z,A,?_,by rw[List.getElem_append_left f];exact m,u.keep (fun b hb=>r b hb.2.1 hb.2.2) (fun b hb=>⟨hb.1,by have:=hb.2.1;omega,a b hb.2.2 (by have:=hb.2.1;omega)⟩),
    w.same (fun s hs=>c s (List.mem_append_left _ hs)),y.same (fun s hs=>c s (List.mem_append_right _ hs))⟩
   rw[List.getElem?_append_left (by omega),List.getElem?_append_left (by omega),List.getElem?_append_left (by omega),List.getElem?_append_left (by omega),List.getElem?_append_left (by omega)]
   exact I
  ·have l:j=k:=by simp at hp;omega
   subst l
   have c:∀s,s∈L3++L4->w3.heap[s.b]?=w2.heap[s.b]?:=fun s hs=>by
    have:=ho.1 s hs
    exact q s.b this.2 (d _ this.1)
   refine⟨c0,c1,c2,c3,c4,L3,L4,?_,by simp[<- hpl],hin.keep (fun b hb=>q b hb.2 (d b hb.1)) (fun b hb=>⟨by have:=hb.1;omega,by have:=hb.2;omega,a b (d b hb.1) hb.2⟩),
    h3.same (fun s hs=>c s (List.mem_append_left _ hs)),h4.same (fun s hs=>c s (List.mem_append_right _ hs))⟩
   rw[List.getElem?_append_right (by omega),List.getElem?_append_right (by omega),List.getElem?_append_right (by omega),List.getElem?_append_right (by omega),List.getElem?_append_right (by omega),p,
    Nat.sub_self,show j*5+1-j*5=1 by omega,show j*5+2-j*5=2 by omega,show j*5+3-j*5=3 by omega,show j*5+4-j*5=4 by omega]
   exact⟨rfl,rfl,rfl,rfl,rfl⟩
 ·rw[List.take_succ_eq_append_getElem hk,qsE,<- hln,List.flatten_append,List.flatten_singleton,List.length_append,hl];omega
def qcZ(n:Nat)(t:T n)(w:World)(e:Ending)(w':World):Prop:=
 Below w.heap.size w w' /\ ∃g0 g1 g2 g3 g4 L3 L4,e=.returned (.agg #[g0,g1,g2,g3,g4])/\TreeIn (fun b=>w.heap.size<=b/\b<w'.heap.size) w' n t g0 g1 g2 g3 g4/\SpN w' g3 L3/\SpR w' (n-1) g4 L4 /\
  Own (fun b=>w.heap.size<=b/\b<w'.heap.size) (L3++L4)/\(L3++L4).length=spL n t
def qhZ(n:Nat):Prop:=∀(S:Nat->Prop)(t:T n)(iv:Value)(w:World),InnerT S w n t iv->(∀b,S b->b<w.heap.size)->qeO n t->Calls prog 104 #[iv] w (qcZ n t w)
theorem qfW (n:Nat) (hn:qhZ n) (S:Nat->Prop) (ks:List (T n)) (v:Value) (w:World) (hr:Row1 S w (InnerT S w n) ks v) (hB:∀ b,S b->b<w.heap.size) (hkc:ks.length<=10000) (hcl:∀ k,k∈ks->qeO n k) :
  Calls prog 135 #[v] w fun e w'=>Below w.heap.size w w' /\ ∃v' L,e=.returned v' /\ RowIn (fun b=>w.heap.size<=b/\b<w'.heap.size) w' (TreeIn (fun b=>w.heap.size<=b/\b<w'.heap.size) w' n) ks v' /\ SpR w' n v' L /\
   Own (fun b=>w.heap.size<=b/\b<w'.heap.size) L/\L.length=sumL (fun x=>3+spL n x) ks:=by
 obtain⟨ao,cap,rfl,-,f⟩:=hr
 obtain⟨i0,hi,u,y,z⟩:=info_parts Tryz.info_treeO
 have O:Hid (_/\_/\_/\_):=⟨hi,u,y,z⟩
 have Q:Hid (∀k,k∈ks->qeO n k):=hcl
 clear hi u y z hcl
 go_enter func135,ntmps135
 go_wp2_with fail
 go_loopw [3,8] (fun v i wr=>∃k:Nat,k<=ks.length/\i=.int .i64 k/\OutLoop w.heap.size n ks w k v wr) (fun _ i _=>ks.length-(intOf i).toNat)
 case atStart=>exact⟨0,Nat.zero_le _,rfl,Below.refl _ _,[],[],World.ownsRow_nil _ _ _ _,rfl,⟨Own.nil _,fun j _ hp=>absurd hp (Nat.not_lt_zero _)⟩,by simp[sumL]⟩
 case round=>
  obtain⟨k,hk,rfl,a,xs,P,m,C,o,s⟩:=hrel
  obtain⟨G,H,rfl⟩:=qhK m
  have R:=a.size
  have E:=hidF m
  have F:Hid (P.length=k/\qqF (fun b=>w.heap.size<=b/\b<wr.heap.size/\(Value.slice G k H).ownBlock≠some b) wr n ks xs P/\P.flatten.length+3*k=sumL (fun x=>3+spL n x) (ks.take k)):=⟨C,o,s⟩
  clear m C o s
  by_cases hlt:k<ks.length
  ·obtain⟨b,V,rfl,W,q⟩:=f (by intro h;rw[h]at hlt;simp at hlt)
   obtain⟨c,e0,hr⟩:=q k hlt
   obtain⟨ku,kx,rfl⟩:=id hr.iface
   have f0:=(a.cell (p:=⟨b,V+k,none⟩) (hB b W)).trans e0
   have Y:Hid (Calls prog 104 _ _ _):=hn S ks[k] _ wr (hr.keep (qaB a hB) (fun _ h=>h)) (fun b hb=>by have:=hB b hb;omega) (Q.out _ (List.getElem_mem hlt))
   clear f q e0 hr
   go_wp2_with fail
   refine Y.out.mono ?_
   rintro e w2 ⟨t,g0,g1,g2,g3,g4,L3,L4,rfl,D,M,N,ho,hl⟩
   obtain⟨u0,u1,u2,ua,ul,uc,ya,yl,yc,rfl,rfl,rfl,rfl,rfl⟩:=D.shape
   have Z:=t.size
   have I:Hid (w2.ownsRow w.heap.size 67 5 (.slice G k H) k xs):=qbF E.out (fun g' hg'=>t.block g' (r1_lt E.out g' hg').2)
   have d:Hid (_/\_/\_/\_/\_/\_):=⟨t,D,M,N,ho,hl⟩
   clear t D M N ho hl f0 Y
   go_wp2_with (at_builtin;refine wpList_append_lies _ rfl (.tmp 12) (.tmp 15) 65 rfl w.heap.size 67 i0 _ 5 80 underlying65 O.out.1 O.out.2.1 O.out.2.2.1 O.out.2.2.2 rfl (by decide) (.slice G k H) k xs rfl (I.out.alloc _) ⟨w2.heap.size,0,none⟩ 1 1 [.int .i64 u0,.int .i64 u1,.string u2,.slice ua ul uc,.slice ya yl yc] rfl rfl (World.news_of_block (heap_alloc_new w2 _)) (by simp[Value.oneCell']) (by decide) (by unfold maxLen;omega) (by omega) (by simp;omega) (w2.heap.size+1) (by simp) ?_;intro g cap w3 r l A aA;refine Hid.out ?_)
   refine Lib.hid ?_
   have HF:Hid (OutLoop w.heap.size n ks w (k+1) (.slice (some ⟨g,0,none⟩) (k+1) cap) w3):=
    xgW a hlt R E.out F.out.1 F.out.2.1 F.out.2.2 d.out.1 d.out.2.1 d.out.2.2.1 d.out.2.2.2.1 d.out.2.2.2.2.1 d.out.2.2.2.2.2 r l A
   clear r l A d I E F
   go_wp2_with fail
   go_roundw
   case rel=>exact⟨k+1,by omega,by go_num,HF.out⟩
   case measure=>simp[intOf];omega
  ·have B:k=ks.length:=by omega
   have HP:Hid (∃ L,RowIn (fun b=>w.heap.size<=b/\b<wr.heap.size) wr (TreeIn (fun b=>w.heap.size<=b/\b<wr.heap.size) wr n) ks (.slice G k H)/\SpR wr n (.slice G k H) L /\
     Own (fun b=>w.heap.size<=b/\b<wr.heap.size) L/\L.length=sumL (fun x=>3+spL n x) ks):=by
    have U:=E.out
    obtain⟨C,o,s⟩:=F.out
    have hv:=r1_lt U
    rw[B,List.take_length]at s
    have J:P.length=ks.length:=by omega
    have K:wr.ownsRow w.heap.size 67 5 (.slice G k H) ks.length xs:=by rw[B]at U ⊢;exact U
    obtain⟨L,hR,hO,hL⟩:=quW K (by omega) J o (fun b hb=>hb.2.2)
    refine⟨L,qlR K (by omega) (fun g hg=>hv g hg) (fun j hj=>?_),hR,hO.mono (fun b hb=>hb.elim (fun h=>⟨h.1,h.2.1⟩) (fun h=>hv b h)),by omega⟩
    obtain⟨d0,d1,d2,d3,d4,K3,K4,hd,-,X,-⟩:=o.2 j hj (by omega)
    exact⟨d0,d1,d2,d3,d4,hd,X.keep (fun _ _=>rfl) (fun b hb=>⟨hb.1,hb.2.1⟩)⟩
   clear B f E F
   go_wp2_with fail
   go_ret
   obtain⟨L,q1,q2,q3,q4⟩:=HP.out
   exact⟨a,_,L,rfl,q1,q2,q3,q4⟩
theorem qmN(x:Int)(h0 : -999999999<=x)(h1:x<=999999999):(Lit.int .i64 x).wf=true:=by
 simp only[Lit.wf,Bool.and_eq_true,decide_eq_true_eq]
 have a:IntKind.i64.min = -9223372036854775808:=by rfl
 have b:IntKind.i64.max=9223372036854775807:=by rfl
 rw[a,b];omega
theorem qwS {n:Nat} {t:T (n+1)} (w:World) (o:Obj) (hs:(Lit.int .i64 (Nd.sort t)).wf=true) (hn:(Lit.int .i64 (Nd.num t)).wf=true) (ht:(Nd.text t).size<=10000) (hN:Nd.names t=[]) (hK:Nd.kids t=[]) :
  qcZ (n+1) t w (.returned (.agg #[.int .i64 (Nd.sort t),.int .i64 (Nd.num t),.string (Nd.text t),.slice none 0 0,.slice none 0 0])) (w.alloc o):=by
 refine⟨(Below.refl _ _).alloc (Nat.le_refl _) _,_,_,_,_,_,[],[],rfl,⟨rfl,rfl,rfl,by unfold maxLen;omega,hs,hn,?_,?_⟩,SpN.no _,SpR.no _ _,Own.nil _,?_⟩
 ·rw[hN];exact⟨none,0,rfl,by simp[maxLen],fun s h=>(by cases h),fun h=>absurd rfl h⟩
 ·rw[hK];exact⟨none,0,rfl,by simp[maxLen],fun h=>absurd rfl h⟩
 ·simp only[spL,hN,hK];simp[sumL]
theorem qqG {n:Nat} {t:T (n+1)} {w W:World} {c3 c4:Value} {L3 L4:List Spot} (hb:Below w.heap.size w W) (hs:(Lit.int .i64 (Nd.sort t)).wf=true) (hn:(Lit.int .i64 (Nd.num t)).wf=true) (ht:(Nd.text t).size<=10000)
  (h3:StrsIn (fun b=>w.heap.size+1<=b/\b<W.heap.size) W (Nd.names t) c3) (h4:RowIn (fun b=>w.heap.size+1<=b/\b<W.heap.size) W (TreeIn (fun b=>w.heap.size+1<=b/\b<W.heap.size) W n) (Nd.kids t) c4)
  (s3:SpN W c3 L3) (s4:SpR W n c4 L4) (ho:Own (fun b=>w.heap.size+1<=b/\b<W.heap.size) (L3++L4)) (hl:(L3++L4).length=spL (n+1) t) :
  qcZ (n+1) t w (.returned (.agg #[.int .i64 (Nd.sort t),.int .i64 (Nd.num t),.string (Nd.text t),c3,c4])) (put5 W w.heap.size 0 (.int .i64 (Nd.sort t)) (.int .i64 (Nd.num t)) (.string (Nd.text t)) c3 c4):=by
 have q:∀b,w.heap.size+1<=b->(put5 W w.heap.size 0 (.int .i64 (Nd.sort t)) (.int .i64 (Nd.num t)) (.string (Nd.text t)) c3 c4).heap[b]?=W.heap[b]?:=fun b h=>qaQ (by omega)
 have a:∀b,(w.heap.size+1<=b/\b<W.heap.size)->w.heap.size<=b/\b<(put5 W w.heap.size 0 (.int .i64 (Nd.sort t)) (.int .i64 (Nd.num t)) (.string (Nd.text t)) c3 c4).heap.size:=fun b h=>by rw[qbO];omega
 refine⟨qaX hb (Nat.le_refl _),_,_,_,_,_,L3,L4,rfl,⟨rfl,rfl,rfl,by unfold maxLen;omega,hs,hn,h3.keep (fun b h=>q b h.1) a,h4.keepT (fun b h=>q b h.1) a⟩,s3.same (fun s h=>q _ (ho.1 s (List.mem_append_left _ h)).1),s4.same (fun s h=>q _ (ho.1 s (List.mem_append_right _ h)).1),ho.mono a,hl⟩
theorem qjF {W:World} {R:Nat} {c0 c1 c2 c3 c4:Value} {ty:TypeId} (h:W.heap[R]?=some (.cells #[c0,c1,c2,c3,c4] ty (0,0))) :
  (W.cell? ⟨R,0,none⟩=some c0/\W.cell? ⟨R,1,none⟩=some c1/\W.cell? ⟨R,2,none⟩=some c2/\W.cell? ⟨R,3,none⟩=some c3/\W.cell? ⟨R,4,none⟩=some c4) /\
  (W.frozen? ⟨R,0,none⟩=false/\W.frozen? ⟨R,1,none⟩=false/\W.frozen? ⟨R,2,none⟩=false/\W.frozen? ⟨R,3,none⟩=false/\W.frozen? ⟨R,4,none⟩=false):=by
 refine⟨⟨?_,?_,?_,?_,?_⟩,?_,?_,?_,?_,?_⟩<;>simp[World.cell?,World.frozen?,h]
theorem xdU(n:Nat)(t:T (n+1))(w:World)(hs:Nd.sort t=1)(hc:qeO (n+1) t):Calls prog 104 #[.iface 166 (.int .i64 (Nd.num t))] w (qcZ (n+1) t w):=by
 obtain⟨c1,-,-,-,-,-,f,g,t0,-⟩:=hc
 obtain⟨b,c,d⟩:=c1 hs
 have a:=Tryz.yes_num
 have e:Hid (∀o,qcZ (n+1) t w (.returned (.agg #[.int .i64 1,.int .i64 (Nd.num t),.string ⟨#[]⟩,.slice none 0 0,.slice none 0 0])) (w.alloc o)):=fun o=>by
  have:=qwS (t:=t) w o (by rw[hs];rfl) (qmN _ f g) t0 c d
  rw[hs,b]at this;exact this
 clear c1 b c d t0
 generalize Nd.num t=x at *
 go_enter func104,ntmps104
 go_wp2_with fail
 refine bodyPost_ret (v:=.agg #[.int .i64 1,.int .i64 x,.string ⟨#[]⟩,.slice none 0 0,.slice none 0 0]) (by simp[results,results104,go_sem]) rfl ?_
 exact e.out _
theorem qyR(n:Nat)(t:T (n+1))(w:World)(hs:Nd.sort t=3)(hc:qeO (n+1) t):Calls prog 104 #[.iface 168 (.bool (Nd.num t==1))] w (qcZ (n+1) t w):=by
 obtain⟨-,-,c1,-,-,-,j,k,t0,-⟩:=hc
 obtain⟨g,h,i,a⟩:=c1 hs
 have c:=Tryz.no_num_flag
 have d:=Tryz.no_text_flag
 have f:=Tryz.yes_flag
 have b:Hid (∀o,qcZ (n+1) t w (.returned (.agg #[.int .i64 3,.int .i64 (Nd.num t),.string ⟨#[]⟩,.slice none 0 0,.slice none 0 0])) (w.alloc o)):=fun o=>by
  have:=qwS (t:=t) w o (by rw[hs];rfl) (qmN _ j k) t0 h i
  rw[hs,g]at this;exact this
 clear c1 g h i t0
 rcases a with a|a
 ·rw[a]at b ⊢
  have e:((0:Int)==1)=false:=rfl
  rw[e]
  go_enter func104,ntmps104
  go_wp2_with fail
  refine bodyPost_ret (v:=.agg #[.int .i64 3,.int .i64 0,.string ⟨#[]⟩,.slice none 0 0,.slice none 0 0]) (by simp[results,results104,go_sem]) rfl ?_
  exact b.out _
 ·rw[a]at b ⊢
  have e:((1:Int)==1)=true:=rfl
  rw[e]
  go_enter func104,ntmps104
  go_wp2_with fail
  refine bodyPost_ret (v:=.agg #[.int .i64 3,.int .i64 1,.string ⟨#[]⟩,.slice none 0 0,.slice none 0 0]) (by simp[results,results104,go_sem]) rfl ?_
  exact b.out _
theorem qyS(n:Nat)(t:T (n+1))(w:World)(hs:Nd.sort t=2)(hc:qeO (n+1) t):Calls prog 104 #[.iface 167 (.string (Nd.text t))] w (qcZ (n+1) t w):=by
 obtain⟨-,c1,-,-,-,-,p,q,t0,-⟩:=hc
 obtain⟨m,d,f⟩:=c1 hs
 have g:=Tryz.no_num_text
 have i:=Tryz.yes_text
 have j:Hid (∀W,Below w.heap.size w W->qcZ (n+1) t w (.returned (.agg #[.int .i64 2,.int .i64 0,.string (Nd.text t),.slice none 0 0,.slice none 0 0])) (put5 W w.heap.size 0 (.int .i64 2) (.int .i64 0) (.string (Nd.text t)) (.slice none 0 0) (.slice none 0 0))):=fun W hW=>by
  have:=qqG (t:=t) (L3:=[]) (L4:=[]) (c3:=.slice none 0 0) (c4:=.slice none 0 0) hW (by rw[hs];rfl) (qmN _ p q) t0 (by rw[d];exact⟨none,0,rfl,by simp[maxLen],fun s h=>(by cases h),fun h=>absurd rfl h⟩) (by rw[f];exact⟨none,0,rfl,by simp[maxLen],fun h=>absurd rfl h⟩) (SpN.no _) (SpR.no _ _) (Own.nil _) (by simp only[spL,d,f];simp[sumL])
  rw[hs,m]at this;exact this
 have k:Hid (∀W,Calls prog 85 #[.string (Nd.text t)] W fun e w'=>e=.returned (.string (Nd.text t))/\Below W.heap.size W w'):=fun W=>qeL _ W t0
 have b:=(Below.refl w.heap.size w).alloc (Nat.le_refl _) (.cells #[.int .i64 0,.int .i64 0,.string ⟨#[]⟩,.slice none 0 0,.slice none 0 0] 67)
 have l:=heap_alloc_new w (.cells #[.int .i64 0,.int .i64 0,.string ⟨#[]⟩,.slice none 0 0,.slice none 0 0] 67)
 clear c1 m d f t0
 generalize Nd.text t=x at *
 go_enter func104,ntmps104
 go_wp2_with fail
 refine (k.out _).mono ?_
 rintro e A ⟨rfl,a⟩
 obtain⟨⟨r0,r,u,y,z⟩,B,f1,C,D,E⟩:=qjF ((a.block w.heap.size (by simp)).trans l)
 have c:=qaA b (by simp) a
 have o:Hid _:=j.out _ c
 clear k j b a l c
 go_wp2_with fail
 refine bodyPost_ret (v:=.agg #[.int .i64 2,.int .i64 0,.string x,.slice none 0 0,.slice none 0 0]) (by simp[results,results104,go_sem,r0,r,u,y,z]) rfl ?_
 exact o.out
theorem qyT (n:Nat) (hn:qhZ n) (S:Nat->Prop) (t:T (n+1)) (kv:Value) (w:World) (hs:Nd.sort t=4) (hr:Row1 S w (InnerT S w n) (Nd.kids t) kv) (hB:∀ b,S b->b<w.heap.size) (hc:qeO (n+1) t) :
  Calls prog 104 #[.iface 170 kv] w (qcZ (n+1) t w):=by
 obtain⟨-,-,-,c1,-,-,E,F,t0,-,-,i,j⟩:=hc
 obtain⟨z,A,k⟩:=c1 hs
 have m:=Tryz.no_num_list
 have o:=Tryz.no_text_list
 have p:=Tryz.no_flag_list
 have q:=Tryz.yes_list
 have a:=(Below.refl w.heap.size w).alloc (Nat.le_refl _) (.cells #[.int .i64 0,.int .i64 0,.string ⟨#[]⟩,.slice none 0 0,.slice none 0 0] 67)
 have r:=heap_alloc_new w (.cells #[.int .i64 0,.int .i64 0,.string ⟨#[]⟩,.slice none 0 0,.slice none 0 0] 67)
 have u:Hid (Calls prog 135 _ _ _):=qfW n hn S (Nd.kids t) kv (w.alloc (.cells #[.int .i64 0,.int .i64 0,.string ⟨#[]⟩,.slice none 0 0,.slice none 0 0] 67)) (hr.keep (qaB a hB) (fun _ h=>h) (fun _ _ _ hx=>hx.keep (qaB a hB) (fun _ h=>h))) (fun b hb=>by have:=hB b hb;simp;omega) i j
 have y:Hid (∀ W d L,Below w.heap.size w W->RowIn (fun b=>w.heap.size+1<=b/\b<W.heap.size) W (TreeIn (fun b=>w.heap.size+1<=b/\b<W.heap.size) W n) (Nd.kids t) d->SpR W n d L->Own (fun b=>w.heap.size+1<=b/\b<W.heap.size) L->L.length=sumL (fun x=>3+spL n x) (Nd.kids t) ->
   qcZ (n+1) t w (.returned (.agg #[.int .i64 4,.int .i64 0,.string ⟨#[]⟩,.slice none 0 0,d])) (put5 W w.heap.size 0 (.int .i64 4) (.int .i64 0) (.string ⟨#[]⟩) (.slice none 0 0) d)):=fun W d L hW h1 h2 h3 h4=>by
  have:=qqG (t:=t) (L3:=[]) (L4:=L) (c3:=.slice none 0 0) (c4:=d) hW (by rw[hs];rfl) (qmN _ E F) t0 (by rw[k];exact⟨none,0,rfl,by simp[maxLen],fun s h=>(by cases h),fun h=>absurd rfl h⟩) h1 (SpN.no _) h2 h3 (by simp only[spL,k];simp[h4])
  rw[hs,z,A]at this;exact this
 obtain⟨N,O,rfl,-⟩:=hr
 clear c1 z A k t0
 go_enter func104,ntmps104
 go_wp2_with fail
 refine u.out.mono ?_
 rintro e P ⟨c,d,L,rfl,g,B,l,C⟩
 obtain⟨G,H,rfl,-⟩:=id g
 obtain⟨⟨r0,I,J,K,M⟩,Q,f1,R,U,V⟩:=qjF ((c.block w.heap.size (by simp)).trans r)
 have f:=qaA a (by simp) c
 simp only[World.size_alloc]at g l
 have D:Hid _:=y.out _ _ L f g B l C
 clear u y a c r f g B l C
 go_wp2_with fail
 refine bodyPost_ret (v:=.agg #[.int .i64 4,.int .i64 0,.string ⟨#[]⟩,.slice none 0 0,.slice G (Nd.kids t).length H]) (by simp[results,results104,go_sem,r0,I,J,K,M]) rfl ?_
 exact D.out
theorem quX (n:Nat) (hn:qhZ n) (S:Nat->Prop) (t:T (n+1)) (kv:Value) (w:World) (hs:Nd.sort t=6) (hr:Row1 S w (InnerT S w n) (Nd.kids t) kv) (hB:∀ b,S b->b<w.heap.size) (hc:qeO (n+1) t) :
  Calls prog 104 #[.iface 175 kv] w (qcZ (n+1) t w):=by
 obtain⟨-,-,-,-,-,c1,G,H,t0,-,-,i,j⟩:=hc
 obtain⟨B,C,k⟩:=c1 hs
 have m:=Tryz.no_num_maybe
 have o:=Tryz.no_text_maybe
 have p:=Tryz.no_flag_maybe
 have q:=Tryz.no_list_maybe
 have r:=Tryz.no_form_maybe
 have u:=Tryz.yes_maybe
 have a:=(Below.refl w.heap.size w).alloc (Nat.le_refl _) (.cells #[.int .i64 0,.int .i64 0,.string ⟨#[]⟩,.slice none 0 0,.slice none 0 0] 67)
 have y:=heap_alloc_new w (.cells #[.int .i64 0,.int .i64 0,.string ⟨#[]⟩,.slice none 0 0,.slice none 0 0] 67)
 have z:Hid (Calls prog 135 _ _ _):=qfW n hn S (Nd.kids t) kv (w.alloc (.cells #[.int .i64 0,.int .i64 0,.string ⟨#[]⟩,.slice none 0 0,.slice none 0 0] 67)) (hr.keep (qaB a hB) (fun _ h=>h) (fun _ _ _ hx=>hx.keep (qaB a hB) (fun _ h=>h))) (fun b hb=>by have:=hB b hb;simp;omega) i j
 have A:Hid (∀ W d L,Below w.heap.size w W->RowIn (fun b=>w.heap.size+1<=b/\b<W.heap.size) W (TreeIn (fun b=>w.heap.size+1<=b/\b<W.heap.size) W n) (Nd.kids t) d->SpR W n d L->Own (fun b=>w.heap.size+1<=b/\b<W.heap.size) L->L.length=sumL (fun x=>3+spL n x) (Nd.kids t) ->
   qcZ (n+1) t w (.returned (.agg #[.int .i64 6,.int .i64 0,.string ⟨#[]⟩,.slice none 0 0,d])) (put5 W w.heap.size 0 (.int .i64 6) (.int .i64 0) (.string ⟨#[]⟩) (.slice none 0 0) d)):=fun W d L hW h1 h2 h3 h4=>by
  have:=qqG (t:=t) (L3:=[]) (L4:=L) (c3:=.slice none 0 0) (c4:=d) hW (by rw[hs];rfl) (qmN _ G H) t0 (by rw[k];exact⟨none,0,rfl,by simp[maxLen],fun s h=>(by cases h),fun h=>absurd rfl h⟩) h1 (SpN.no _) h2 h3 (by simp only[spL,k];simp[h4])
  rw[hs,B,C]at this;exact this
 obtain⟨P,Q,rfl,-⟩:=hr
 clear c1 B C k t0
 go_enter func104,ntmps104
 go_wp2_with fail
 refine z.out.mono ?_
 rintro e R ⟨c,d,L,rfl,g,D,l,E⟩
 obtain⟨I,J,rfl,-⟩:=id g
 obtain⟨⟨r0,K,M,N,O⟩,U,f1,V,X,Y⟩:=qjF ((c.block w.heap.size (by simp)).trans y)
 have f:=qaA a (by simp) c
 simp only[World.size_alloc]at g l
 have F:Hid _:=A.out _ _ L f g D l E
 clear z A a c y f g D l E
 go_wp2_with fail
 refine bodyPost_ret (v:=.agg #[.int .i64 6,.int .i64 0,.string ⟨#[]⟩,.slice none 0 0,.slice I (Nd.kids t).length J]) (by simp[results,results104,go_sem,r0,K,M,N,O]) rfl ?_
 exact F.out
theorem qyU (n:Nat) (hn:qhZ n) (S:Nat->Prop) (t:T (n+1)) (nv kv:Value) (w:World) (hs:Nd.sort t=5) (hN:StrsIn S w (Nd.names t) nv) (hr:Row1 S w (InnerT S w n) (Nd.kids t) kv) (hB:∀ b,S b->b<w.heap.size) (hc:qeO (n+1) t) :
  Calls prog 104 #[.iface 173 (.agg #[nv,kv])] w (qcZ (n+1) t w):=by
 obtain⟨-,-,-,-,c1,-,n0,n1,t0,nl,J,K,E⟩:=hc
 obtain⟨V,X⟩:=c1 hs
 have O:=Tryz.no_num_form
 have P:=Tryz.no_text_form
 have Q:=Tryz.no_flag_form
 have R:=Tryz.no_list_form
 have U:=Tryz.yes_form
 obtain⟨na,F,rfl,-⟩:=id hN
 obtain⟨z,A,rfl,-⟩:=id hr
 obtain⟨W1,i⟩:∃W1,W1=(w.alloc (.cells #[.int .i64 0,.int .i64 0,.string ⟨#[]⟩,.slice none 0 0,.slice none 0 0] 67)).alloc (.cells #[.slice na (Nd.names t).length F,.slice z (Nd.kids t).length A] 173):=⟨_,rfl⟩
 have I:W1.heap.size=w.heap.size+2:=by rw[i];simp
 have q:Below w.heap.size w W1:=by rw[i];exact ((Below.refl _ _).alloc (Nat.le_refl _) _).alloc (by simp) _
 have j:W1.heap[w.heap.size]?=some (.cells #[.int .i64 0,.int .i64 0,.string ⟨#[]⟩,.slice none 0 0,.slice none 0 0] 67 (0,0)):=by
  rw[i,Below.heap_alloc _ _ _ (by simp)];exact heap_alloc_new _ _
 have f:W1.heap[w.heap.size+1]?=some (.cells #[.slice na (Nd.names t).length F,.slice z (Nd.kids t).length A] 173 (0,0)):=by
  have:=heap_alloc_new (w.alloc (.cells #[.int .i64 0,.int .i64 0,.string ⟨#[]⟩,.slice none 0 0,.slice none 0 0] 67)) (.cells #[.slice na (Nd.names t).length F,.slice z (Nd.kids t).length A] 173)
  rw[i];simpa using this
 have B:Hid (Calls prog 136 #[.slice na (Nd.names t).length F] W1.drew fun e w'=>∃ l m o,e=.returned (.slice l m o)/\Below W1.heap.size W1 w' /\ w'.cell? ⟨w.heap.size+1,1,none⟩=some (.slice z (Nd.kids t).length A) /\
   w'.ownsRow (w.heap.size+2) 9 1 (.slice l m o) (Nd.names t).length ((Nd.names t).map .string)):=by
  refine (qiY S (Nd.names t) _ W1.drew (hN.keep (qaB q.drew hB) (fun _ h=>h)) (fun b p=>by have:=hB b p;simp;omega) nl J).mono ?_
  rintro e w' ⟨v',rfl,d,p⟩
  have C:Below W1.heap.size W1 w':=((Below.refl _ _).drew).trans p
  obtain⟨a,c,rfl⟩:=qeU d
  refine⟨_,_,_,rfl,C,?_,?_⟩
  ·have:=(C.block (w.heap.size+1) (by omega)).trans f
   simp[World.cell?,this]
  ·have h:=d
   simp only[World.size_drew,I]at h
   exact h
 have D:Hid (∀ (W:World) (l:Option Addr) (m o:Nat),Below W1.heap.size W1 W->W.ownsRow (w.heap.size+2) 9 1 (.slice l m o) (Nd.names t).length ((Nd.names t).map .string)->Calls prog 135 #[.slice z (Nd.kids t).length A] W fun e w'=>∃ u G x,e=.returned (.slice u G x) /\
   w'.heap[w.heap.size]?=some (.cells #[.int .i64 0,.int .i64 0,.string ⟨#[]⟩,.slice none 0 0,.slice none 0 0] 67 (0,0)) /\
   qcZ (n+1) t w (.returned (.agg #[.int .i64 5,.int .i64 0,.string ⟨#[]⟩,.slice l m o,.slice u G x])) (put5 w' w.heap.size 0 (.int .i64 5) (.int .i64 0) (.string ⟨#[]⟩) (.slice l m o) (.slice u G x))):=by
  intro W l m o M d
  have r:Below w.heap.size w W:=q.trans (M.mono q.size)
  have aA:=M.size
  refine (qfW n hn S (Nd.kids t) _ W (hr.keep (qaB r hB) (fun _ h=>h) (fun _ _ _ hx=>hx.keep (qaB r hB) (fun _ h=>h))) (fun b p=>by have:=hB b p;omega) K E).mono ?_
  rintro e w' ⟨p,v',L,rfl,Y,q2,q3,q4⟩
  obtain⟨u,x,rfl,-⟩:=id Y
  have aB:=p.size
  have k:w'.ownsRow (w.heap.size+2) 9 1 (.slice l m o) (Nd.names t).length ((Nd.names t).map .string):=qaK d (fun g hg=>p.block g (qaF d g hg).2)
  have s:=qaF d
  obtain⟨L3,p1,p2,p3⟩:=qhY k (by omega)
  refine⟨_,_,_,rfl,(p.block _ (by omega)).trans ((M.block _ (by omega)).trans j),?_⟩
  have:=qqG (t:=t) (w:=w) (W:=w') (L3:=L3) (L4:=L) (c3:=.slice l m o) (c4:=.slice u (Nd.kids t).length x) (r.trans (p.mono (by omega))) (by rw[hs];rfl) (qmN _ n0 n1) t0
   (qcQ k (by omega) J (fun g hg=>by have:=s g hg;omega)) (Y.keepT (fun _ _=>rfl) (fun b h=>by omega)) p1 q2
   (p3.app q3 (fun b h=>by have:=s b h;omega) (fun b h=>by omega) (fun b h1 h2=>by have:=s b h1;omega)) (by rw[List.length_append,p2,q4];rfl)
  rw[hs,V,X]at this;exact this
 have x0:W1.cell? ⟨w.heap.size+1,0,none⟩=some (.slice na (Nd.names t).length F):=by simp[World.cell?,f]
 have x1:W1.cell? ⟨w.heap.size+1,1,none⟩=some (.slice z (Nd.kids t).length A):=by simp[World.cell?,f]
 clear c1 V X t0 hN hr hn E J j f
 go_enter func104,ntmps104
 go_wp2_with fail
 rw[<- i]
 clear i
 go_region_with (first
  | (go_at_call 136;refine B.out.mono ?_;rintro e w2 ⟨l,m,o,rfl,N,aC,y⟩)
  | (go_at_call 135;refine (D.out _ _ _ _ (by assumption) (by assumption)).mono ?_;rintro e w3 ⟨u,G,x,rfl,H,Z⟩;obtain⟨⟨r0,r1,r2,r3,r4⟩,f0,f1,f2,f3,f4⟩:=qjF H))
 all_goals
  have HQ:Hid _:=Z
  clear Z y N H B D
  go_wp2_with fail
  refine bodyPost_ret (v:=.agg #[.int .i64 5,.int .i64 0,.string ⟨#[]⟩,.slice l m o,.slice u G x]) (by simp[results,results104,go_sem,r0,r1,r2,r3,r4]) rfl ?_
  exact HQ.out
theorem qyV(n:Nat)(hn:qhZ n):qhZ (n+1):=by
 intro S t i w h e b
 rcases h with ⟨a,rfl⟩|⟨a,rfl⟩|⟨a,rfl⟩|⟨a,c,rfl,d⟩|⟨a,g,c,rfl,f,d⟩|⟨a,c,rfl,d⟩
 ·exact xdU n t w a b
 ·exact qyS n t w a b
 ·exact qyR n t w a b
 ·exact qyT n hn S t c w a d e b
 ·exact qyU n hn S t g c w a f d e b
 ·exact quX n hn S t c w a d e b
theorem qqH:∀n,qhZ n:=by
 intro n
 induction n with
 | zero=>intro S t a w h;exact h.elim
 | succ n ih=>exact qyV n ih
def qjP(n:Nat):Prop:=∀(L:List Spot)(v:Value)(k:Int)(w:World),SpR w n v L->1<=k->k+L.length<=1000000000 ->
 Calls prog 18 #[v,.int .i64 k] w fun e w'=>e=.returned (.int .i64 (k+L.length))/\Wrote L k w w'
theorem xaC:qjP 0:=by
 intro L v k w h b c
 obtain⟨d,cap,rfl,rfl⟩:=h
 have a:Hid (Wrote [] k w w/\k=k+(([]:List Spot).length:Int)):=⟨Wrote.refl k w,by simp⟩
 go_enter func18,ntmps18
 go_wp2_with fail
 go_rounds 1
 go_ret
 exact⟨qaN a.out.2,a.out.1⟩
theorem xaD(n:Nat)(hn:qjP n):qjP (n+1):=by
 intro L v k w h h0 U
 have F:=h.ok
 obtain⟨ao,cap,f,rfl,Q,rfl,Z⟩:=h
 unfold maxLen at Q
 have V:=hidF F
 have G:Hid (∀j,(f.take j).flatten.length<=f.flatten.length):=fun j=>qgN f j
 have HB:=hidF U
 clear F U
 go_enter func18,ntmps18
 go_wp2_with fail
 go_loopw [1,5] (fun a i wr=>∃j:Nat,j<=f.length/\i=.int .i64 j/\a=.int .i64 (k+((f.take j).flatten.length:Int))/\Wrote (f.take j).flatten k w wr) (fun _ i _=>f.length-(intOf i).toNat)
 case atStart=>exact⟨0,Nat.zero_le _,rfl,by simp,by simpa using Wrote.refl k w⟩
 case round=>
  obtain⟨j,hj,rfl,rfl,l⟩:=hrel
  by_cases hlt:j<f.length
  ·obtain⟨b,c,c3,c4,L3,L4,rfl,D,g,t,R,hN,hR⟩:=Z j hlt
   have d:=qkO f j hlt
   have y:=G.out (j+1)
   rw[d,D]at y
   simp only[List.length_append]at y
   have z:(sp5 b (c+j*5)).length=3:=rfl
   have W:k+((f.take j).flatten.length:Int)+3+L3.length+L4.length<=1000000000:=by have:=HB.out;omega
   have m:∀s,s∈(f.take j).flatten->s.ok w:=fun s hs=>V.out s (by
    obtain⟨Li,U,h2⟩:=List.mem_flatten.1 hs
    exact List.mem_flatten.2 ⟨Li,List.mem_of_mem_take U,h2⟩)
   obtain⟨M,hM⟩:∃M,M=(f.take j).flatten:=⟨_,rfl⟩
   rw[<- hM]at l m d W ⊢
   clear hM
   have q:=l.sim m
   have o0:=Spot.ok_sim (g ⟨b,c+j*5,false⟩ (by simp[sp5])) q
   have o1:=Spot.ok_sim (g ⟨b,c+j*5+1,false⟩ (by simp[sp5])) q
   have o2:=Spot.ok_sim (g ⟨b,c+j*5+2,true⟩ (by simp[sp5])) q
   obtain⟨⟨x0,r0⟩,z0⟩:=o0
   obtain⟨⟨x1,r1⟩,z1⟩:=o1
   obtain⟨⟨x2,r2⟩,z2⟩:=o2
   simp only[Spot.at]at r0 r1 r2 z0 z1 z2
   generalize hkk:k+(M.length:Int)=kk at *
   have aB:1<=kk:=by omega
   have W1:=l.snocI ⟨b,c+j*5,false⟩ hkk.symm ⟨b,c+j*5,none⟩ (.int .i64 kk) rfl rfl
   have W2:=W1.snocI (kk:=kk+1) ⟨b,c+j*5+1,false⟩ (by simp;omega) ⟨b,c+j*5+1,none⟩ (.int .i64 (kk+1)) rfl rfl
   have H:Hid _:=W2
   have c2:((wr.setCell ⟨b,c+j*5,none⟩ (.int .i64 kk)).setCell ⟨b,c+j*5+1,none⟩ (.int .i64 (kk+1))).cell? ⟨b,c+j*5+2,none⟩=some (.string x2):=by
    rw[World.cell?_setCell_other _ _ _ _ (by simp),World.cell?_setCell_other _ _ _ _ (by simp)];exact r2
   have f2:((wr.setCell ⟨b,c+j*5,none⟩ (.int .i64 kk)).setCell ⟨b,c+j*5+1,none⟩ (.int .i64 (kk+1))).frozen? ⟨b,c+j*5+2,none⟩=false:=by
    rw[World.frozen?_setCell,World.frozen?_setCell];exact z2
   have HC:Hid (Calls prog 36 #[.int .i64 (kk+1+1)] ((wr.setCell ⟨b,c+j*5,none⟩ (.int .i64 kk)).setCell ⟨b,c+j*5+1,none⟩ (.int .i64 (kk+1))) fun e w'=>e=.returned (.string (mt (kk+1+1))) /\
     w'.cell? ⟨b,c+j*5+2,none⟩=some (.string x2)/\w'.frozen? ⟨b,c+j*5+2,none⟩=false/\Wrote (M++sp5 b (c+j*5)) k w (w'.setCell ⟨b,c+j*5+2,none⟩ (.string (mt (kk+1+1))))):=by
    refine (qfQ (kk+1+1) _ (by omega) (by omega)).mono ?_
    rintro e w' ⟨rfl,hb⟩
    refine⟨rfl,(hb.cell (p:=⟨b,c+j*5+2,none⟩) (mlt (o:=c+j*5+2) c2)).trans c2,(hb.frozen (p:=⟨b,c+j*5+2,none⟩) (mlt (o:=c+j*5+2) c2)).trans f2,?_⟩
    have:=(H.out.below hb).snocI (kk:=kk+1+1) ⟨b,c+j*5+2,true⟩ (by simp;omega) ⟨b,c+j*5+2,none⟩ (.string (mt (kk+1+1))) rfl rfl
    simpa [sp5] using this
   have u:Hid (∀s,s∈M++sp5 b (c+j*5)->s.ok w):=fun s hs=>by
    rcases List.mem_append.1 hs with h|h
    ·exact m s h
    ·exact g s h
   have I:Hid (SpN w c3 L3/\SpR w n c4 L4/\w.cell? ⟨b,c+j*5+3,none⟩=some c3/\w.cell? ⟨b,c+j*5+4,none⟩=some c4):=⟨hN,hR,t,R⟩
   obtain⟨na,nl,nc,rfl⟩:=hN.slice
   obtain⟨ka,kl,kc,rfl⟩:=hR.slice
   have J:Hid ((f.take (j+1)).flatten=M++(sp5 b (c+j*5)++(L3++L4))):=by show _=_;rw[d,D]
   have A:=hidF hkk
   clear hN hR t R Z W1 W2 H q l g m d D y c2 f2 r2 z2 hkk
   generalize mt (kk+1+1)=tx at *
   go_wp2_with fail
   refine HC.out.mono ?_
   rintro e w3 ⟨rfl,t,aA,E⟩
   have B:=E.sim u.out
   have q3:=B.sl _ _ _ _ _ I.out.2.2.1
   have K:Hid (Calls prog 17 _ _ _):=qgS L3 _ (kk+1+1+1) _ (I.out.1.sim B) (by omega) (by omega)
   have N:Hid _:=E
   clear B E HC
   go_wp2_with fail
   refine K.out.mono ?_
   rintro e w5 ⟨rfl,S⟩
   have r:Wrote (M++sp5 b (c+j*5)++L3) k w w5:=N.out.trans (by
    rw[show k+((M++sp5 b (c+j*5)).length:Int)=kk+1+1+1 by have:=A.out;rw[List.length_append,z];omega];exact S)
   have O:Hid (∀s,s∈M++sp5 b (c+j*5)++L3->s.ok w):=fun s hs=>by
    rcases List.mem_append.1 hs with h|h
    ·exact u.out s h
    ·exact I.out.1.ok s h
   have C:=r.sim O.out
   have q4:=C.sl _ _ _ _ _ I.out.2.2.2
   have P:Hid (Calls prog 18 _ _ _):=hn L4 _ (kk+1+1+1+L3.length) w5 (I.out.2.1.sim C) (by omega) (by omega)
   have x:Hid _:=r
   clear C r S N q3 t aA K
   go_wp2_with fail
   refine P.out.mono ?_
   rintro e w6 ⟨rfl,T⟩
   have X:Hid (Wrote (f.take (j+1)).flatten k w w6):=by
    show Wrote _ _ _ _
    rw[J.out]
    have:=x.out.trans (M:=L4) (w2:=w6) (by
     rw[show k+((M++sp5 b (c+j*5)++L3).length:Int)=kk+1+1+1+(L3.length:Int) by have:=A.out;rw[List.length_append,List.length_append,z];omega];exact T)
    simpa [List.append_assoc] using this
   have Y:Hid (kk+1+1+1+(L3.length:Int)+(L4.length:Int)=k+((f.take (j+1)).flatten.length:Int)):=by
    show _=_
    rw[J.out]
    have:=A.out
    simp only[List.length_append,z]
    omega
   clear T x P q4
   go_wp2_with fail
   go_roundw
   case rel=>exact⟨j+1,by omega,by go_num,by rw[Y.out],X.out⟩
   case measure=>simp[intOf];omega
  ·have HW:Hid (Wrote f.flatten k w wr/\k+((f.take j).flatten.length:Int)=k+(f.flatten.length:Int)):=by
    rw[show j=f.length by omega,List.take_length]at l ⊢
    exact⟨l,rfl⟩
   clear Z l
   go_wp2_with fail
   go_ret
   exact⟨qaN HW.out.2,HW.out.1⟩
theorem qrC:∀n,qjP n:=by
 intro n
 induction n with
 | zero=>exact xaC
 | succ n ih=>exact xaD n ih
def qjQ(n:Nat):Prop:=∀(L:List Spot)(v:Value)(k:Int)(w:World),SpR w n v L->Holds w L k->1<=k->k+L.length<=1000000000 ->
 Calls prog 20 #[v,.int .i64 k] w fun e w'=>e=.returned (.int .i64 (k+L.length))/\Below w.heap.size w w'
theorem xaE:qjQ 0:=by
 intro L v k w h _ b c
 obtain⟨d,cap,rfl,rfl⟩:=h
 have a:Hid (k=k+(([]:List Spot).length:Int)):=by show _=_;simp
 go_enter func20,ntmps20
 go_wp2_with fail
 go_rounds 1
 go_ret
 exact⟨qaN a.out,Below.refl _ _⟩
theorem xaF(n:Nat)(hn:qjQ n):qjQ (n+1):=by
 intro L v k w h Z h0 h1
 have A:=h.ok
 obtain⟨ao,cap,f,rfl,G,rfl,R⟩:=h
 unfold maxLen at G
 have aA:=hidF A
 have HH:Hid (Holds w f.flatten k):=Z
 have B:Hid (∀j,(f.take j).flatten.length<=f.flatten.length):=fun j=>qgN f j
 have HB:=hidF h1
 clear A Z h1
 go_enter func20,ntmps20
 go_wp2_with fail
 go_loopw [1,5] (fun a i wr=>∃j:Nat,j<=f.length/\i=.int .i64 j/\a=.int .i64 (k+((f.take j).flatten.length:Int))/\Below w.heap.size w wr) (fun _ i _=>f.length-(intOf i).toNat)
 case atStart=>exact⟨0,Nat.zero_le _,rfl,by simp,Below.refl _ _⟩
 case round=>
  obtain⟨j,hj,rfl,rfl,d⟩:=hrel
  by_cases hlt:j<f.length
  ·obtain⟨b,c,c3,c4,L3,L4,rfl,o,H,I,J,N,O⟩:=R j hlt
   have g:=qkO f j hlt
   have s:=B.out (j+1)
   rw[g,o]at s
   simp only[List.length_append]at s
   have C:(sp5 b (c+j*5)).length=3:=rfl
   have aB:k+((f.take j).flatten.length:Int)+3+L3.length+L4.length<=1000000000:=by have:=HB.out;omega
   have t:=qyE HH.out j hlt
   rw[o]at t
   have P:Hid (k+((f.take j).flatten.length:Int)+1+1+1+(L3.length:Int)+(L4.length:Int)=k+((f.take (j+1)).flatten.length:Int)):=by
    show _=_
    rw[g,o]
    simp only[List.length_append,C]
    omega
   have aC:0<=((f.take j).flatten.length:Int):=by omega
   generalize hkk:k+((f.take j).flatten.length:Int)=kk at *
   have X:1<=kk:=by omega
   clear hkk
   obtain⟨S,r⟩:=qgR t
   obtain⟨y,z⟩:=qgR r
   rw[C]at y z
   obtain⟨g0,g1,g2,-⟩:=S
   have u:w.cell? ⟨b,c+j*5,none⟩=some (.int .i64 kk):=g0
   have D:w.cell? ⟨b,c+j*5+1,none⟩=some (.int .i64 (kk+1)):=g1
   have x:w.cell? ⟨b,c+j*5+2,none⟩=some (.string (mt (kk+1+1))):=g2
   have m:=mlt u
   have f0:=(d.cell (p:=⟨b,c+j*5,none⟩) m).trans u
   have f1:=(d.cell (p:=⟨b,c+j*5+1,none⟩) m).trans D
   have f2:=(d.cell (p:=⟨b,c+j*5+2,none⟩) m).trans x
   have Y:Hid (∀W,Below w.heap.size w W->W.cell? ⟨b,c+j*5+3,none⟩=some c3/\W.cell? ⟨b,c+j*5+4,none⟩=some c4):=fun W hW=>⟨(hW.cell (p:=⟨b,c+j*5+3,none⟩) m).trans I,(hW.cell (p:=⟨b,c+j*5+4,none⟩) m).trans J⟩
   have HN:Hid (∀W,Below w.heap.size w W->Calls prog 19 #[c3,.int .i64 (kk+1+1+1)] W fun e w'=>e=.returned (.int .i64 (kk+1+1+1+L3.length))/\Below W.heap.size W w'):=fun W hW=>
    qgT L3 c3 _ W (N.below hW) (by have:=y.below N.ok hW;rwa [show kk+((3:Nat):Int)=kk+1+1+1 by omega]at this) (by omega) (by omega)
   have HR:Hid (∀W,Below w.heap.size w W->Calls prog 20 #[c4,.int .i64 (kk+1+1+1+L3.length)] W fun e w'=>e=.returned (.int .i64 (kk+1+1+1+L3.length+L4.length))/\Below W.heap.size W w'):=fun W hW=>
    hn L4 c4 _ W (O.below hW) (by have:=z.below O.ok hW;rwa [show kk+((3:Nat):Int)+(L3.length:Int)=kk+1+1+1+(L3.length:Int) by omega]at this) (by omega) (by omega)
   have Q:=d.size
   have HC:Hid (Calls prog 36 #[.int .i64 (kk+1+1)] wr.drew fun e w'=>e=.returned (.string (mt (kk+1+1)))/\Below w.heap.size w w' /\ w'.cell? ⟨b,c+j*5+2,none⟩=some (.string (mt (kk+1+1)))):=by
    refine (qfQ (kk+1+1) wr.drew (by omega) (by omega)).mono ?_
    rintro e w' ⟨rfl,hb⟩
    have E:Below w.heap.size w w':=d.trans ((((Below.refl _ _).drew).trans hb).mono Q)
    exact⟨rfl,E,(E.cell (p:=⟨b,c+j*5+2,none⟩) m).trans x⟩
   obtain⟨na,nl,nc,rfl⟩:=N.slice
   obtain⟨ka,kl,kc,rfl⟩:=O.slice
   clear N O I J R H g o s g0 g1 g2 u D x t r y z
   generalize mt (kk+1+1)=tx at *
   have aD:(kk != kk)=false:=by simp
   have aE:(kk+1 != kk+1)=false:=by simp
   go_wp2_with fail
   go_region_law (go_simp;go_at_call 36;refine HC.out.mono ?_;rintro e w1 ⟨rfl,q,T⟩)
   all_goals
    obtain⟨p3,p4⟩:=Y.out _ q
    clear T f0 f1 f2
    go_wp2_with fail
    refine (HN.out _ q).mono ?_
    rintro e w2 ⟨rfl,K⟩
    have l:=qaA q q.size K
    obtain⟨U,V⟩:=Y.out _ l
    clear K p3 p4
    go_wp2_with fail
    refine (HR.out _ l).mono ?_
    rintro e w3 ⟨rfl,M⟩
    have F:=qaA l l.size M
    clear M U V
    go_wp2_with fail
    go_roundw
    case rel=>exact⟨j+1,by omega,by go_num,by rw[<- P.out],F⟩
    case measure=>simp[intOf];omega
  ·have HW:Hid (k+((f.take j).flatten.length:Int)=k+(f.flatten.length:Int)):=by
    show _=_
    rw[show j=f.length by omega,List.take_length]
   clear R
   go_wp2_with fail
   go_ret
   exact⟨qaN HW.out,d⟩
theorem qrD:∀n,qjQ n:=by
 intro n
 induction n with
 | zero=>exact xaE
 | succ n ih=>exact xaF n ih
theorem qtS (n:Nat) (x0 x1:Int) (x2:ByteArray) (c3 c4:Value) (L3 L4:List Spot) (k:Int) (w:World) (h3:SpN w c3 L3) (h4:SpR w n c4 L4) (h0:1<=k) (h1:k+L3.length+L4.length<=1000000000) :
  Calls prog 8 #[.agg #[.int .i64 x0,.int .i64 x1,.string x2,c3,c4],.int .i64 k] w fun e w'=>e=.returned (.int .i64 (k+L3.length+L4.length))/\Wrote (L3++L4) k w w':=by
 obtain⟨na,nl,h,rfl⟩:=h3.slice
 obtain⟨c,kl,d,rfl⟩:=h4.slice
 have a:=(Below.refl w.heap.size w).alloc (Nat.le_refl _) (.cells #[.int .i64 x0,.int .i64 x1,.string x2,.slice na nl h,.slice c kl d] 25)
 have b:=h3.below a
 have m:Hid (Calls prog 17 _ _ _):=qgS L3 _ k _ b h0 (by omega)
 have i:Hid (SpR (w.alloc (.cells #[.int .i64 x0,.int .i64 x1,.string x2,.slice na nl h,.slice c kl d] 25)) n (.slice c kl d) L4/\∀s,s∈L3->s.ok (w.alloc (.cells #[.int .i64 x0,.int .i64 x1,.string x2,.slice na nl h,.slice c kl d] 25))):=⟨h4.below a,b.ok⟩
 have p:(w.alloc (.cells #[.int .i64 x0,.int .i64 x1,.string x2,.slice na nl h,.slice c kl d] 25)).cell? ⟨w.heap.size,4,none⟩=some (.slice c kl d):=by simp[go_sem]
 clear h3 h4 b
 go_enter func8,ntmps8
 go_wp2_with fail
 refine m.out.mono ?_
 rintro e r ⟨rfl,l⟩
 have j:=l.sim i.out.2
 have t:=j.sl _ _ _ _ _ p
 have f:Hid (Calls prog 18 _ _ _):=qrC n L4 _ (k+L3.length) r (i.out.1.sim j) (by omega) (by omega)
 have o:Hid _:=l
 clear j l m i
 go_wp2_with fail
 refine f.out.mono ?_
 rintro e w2 ⟨rfl,g⟩
 have q:Hid (Wrote (L3++L4) k w w2):=Wrote.from_below a (o.out.trans g)
 clear g o f
 go_wp2_with fail
 go_ret
 exact⟨rfl,q.out⟩
theorem qkV (n:Nat) (x0 x1:Int) (x2:ByteArray) (c3 c4:Value) (L3 L4:List Spot) (k:Int) (w:World) (h3:SpN w c3 L3) (h4:SpR w n c4 L4) (hh:Holds w (L3++L4) k) (h0:1<=k) (h1:k+L3.length+L4.length<=1000000000) :
  Calls prog 9 #[.agg #[.int .i64 x0,.int .i64 x1,.string x2,c3,c4],.int .i64 k] w fun e w'=>e=.returned (.int .i64 (k+L3.length+L4.length))/\Below w.heap.size w w':=by
 obtain⟨na,nl,q,rfl⟩:=h3.slice
 obtain⟨j,kl,l,rfl⟩:=h4.slice
 obtain⟨g,h⟩:=qgR hh
 have b:=(Below.refl w.heap.size w).alloc (Nat.le_refl _) (.cells #[.int .i64 x0,.int .i64 x1,.string x2,.slice na nl q,.slice j kl l] 25)
 have m:Hid (Calls prog 19 _ _ _):=qgT L3 _ k _ (h3.below b) (g.below h3.ok b) h0 (by omega)
 have o:Hid (∀W,Below w.heap.size w W->Calls prog 20 #[.slice j kl l,.int .i64 (k+L3.length)] W fun e w'=>e=.returned (.int .i64 (k+L3.length+L4.length))/\Below W.heap.size W w'):=fun W hW=>
  qrD n L4 _ (k+L3.length) W (h4.below hW) (h.below h4.ok hW) (by omega) (by omega)
 have r:(w.alloc (.cells #[.int .i64 x0,.int .i64 x1,.string x2,.slice na nl q,.slice j kl l] 25)).cell? ⟨w.heap.size,4,none⟩=some (.slice j kl l):=by simp[go_sem]
 have t:¬k+(L3.length:Int)<0:=by omega
 have u:¬k+(L3.length:Int)+(L4.length:Int)<0:=by omega
 clear h3 h4 hh g h
 go_enter func9,ntmps9
 go_wp2_with fail
 refine m.out.mono ?_
 rintro e s ⟨rfl,c⟩
 have v:=(c.cell (p:=⟨w.heap.size,4,none⟩) (by show w.heap.size<_;simp)).trans r
 have a:=qaA b (by simp) c
 have d:Hid (Calls prog 20 _ _ _):=o.out s a
 clear m o c
 go_wp2_with fail
 refine d.out.mono ?_
 rintro e w2 ⟨rfl,i⟩
 have f:=qaA a a.size i
 clear i d
 go_wp2_with fail
 go_ret
 exact⟨rfl,f⟩
end Go.Proofs.YtelogmjfekhmpaaGreatDoor
