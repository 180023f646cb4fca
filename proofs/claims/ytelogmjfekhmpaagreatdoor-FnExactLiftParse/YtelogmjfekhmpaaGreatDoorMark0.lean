import Derived.Test.YtelogmjfekhmpaaGreatDoorTextN
import Derived.Test.YtelogmjfekhmpaaGreatDoorRet
import Derived.Laws.IdiomStrings
namespace Go.Proofs.YtelogmjfekhmpaaGreatDoor
set_option maxRecDepth 100000
set_option maxHeartbeats 16000000
open Go.RowKit
theorem mlt {w:World} {b o:Nat} {v:Value} (h:w.cell? ⟨b,o,none⟩=some v):b<w.heap.size:=
 Classical.byContradiction fun hge=>by
  have:w.heap[b]?=none:=Array.getElem?_eq_none (by omega)
  simp[World.cell?,this]at h
def decF:Nat->Nat->List UInt8
 | 0,_=>[]
 | f+1,n=>if n=0 then [] else decF f (n / 10)++[UInt8.ofNat (48+n % 10)]
def decM (n:Nat):List UInt8:=decF n n
theorem xcI:∀ (f g n:Nat),n<=f->n<=g->decF f n=decF g n:=by
 intro f
 induction f with
 | zero=>
  intro g n h _
  have:n=0:=by omega
  subst this
  cases g <;> simp[decF]
 | succ f ih=>
  intro g n h1 h2
  cases g with
  | zero=>
   have:n=0:=by omega
   subst this
   simp[decF]
  | succ g=>
   by_cases h0:n=0
   ·subst h0;simp[decF]
   ·simp only[decF,if_neg h0]
    rw[ih g (n / 10) (by omega) (by omega)]
theorem qsA:decM 0=[]:=rfl
theorem qwL (n:Nat) (h:n≠0):decM n=decM (n / 10)++[UInt8.ofNat (48+n % 10)]:=by
 obtain⟨m,rfl⟩:=Nat.exists_eq_succ_of_ne_zero h
 show decF (m+1) (m+1)=decF ((m+1) / 10) ((m+1) / 10)++_
 rw[xcI ((m+1) / 10) m ((m+1) / 10) (Nat.le_refl _) (by omega)]
 simp only[decF,if_neg h]
theorem xgG:∀ n:Nat,(decM n).length<=n:=by
 intro n
 induction n using Nat.strongRecOn with
 | ind n ih=>
  by_cases h:n=0
  ·subst h;rw[qsA];simp
  ·rw[qwL n h]
   have:=ih (n / 10) (by omega)
   simp only[List.length_append,List.length_cons,List.length_nil]
   omega
def mt (k:Int):ByteArray:=bs (109 :: decM k.toNat)
structure Spot where
 b:Nat
 o:Nat
 tx:Bool
def Spot.at (s:Spot):Addr:=⟨s.b,s.o,none⟩
def Spot.val (s:Spot) (k:Int):Value:=if s.tx then .string (mt k) else .int .i64 k
def qbF:World->List Spot->Int->World
 | w,[],_=>w
 | w,s :: r,k=>qbF (w.setCell s.at (s.val k)) r (k+1)
theorem qpT (L:List Spot) (s:Spot):∀ (w:World) (k:Int),qbF w (L++[s]) k=(qbF w L k).setCell s.at (s.val (k+L.length)):=by
 induction L with
 | nil=>intro w k;simp[qbF]
 | cons a r ih=>
  intro w k
  simp only[List.cons_append,qbF,ih,List.length_cons]
  rw[show k+1+(r.length:Int)=k+((r.length+1:Nat):Int) by omega]
theorem qsB (L M:List Spot):∀ (w:World) (k:Int),qbF w (L++M) k=qbF (qbF w L k) M (k+L.length):=by
 induction L with
 | nil=>intro w k;simp[qbF]
 | cons a r ih=>
  intro w k
  simp only[List.cons_append,qbF,ih,List.length_cons]
  rw[show k+1+(r.length:Int)=k+((r.length+1:Nat):Int) by omega]
theorem qjA {w w':World} {b:Nat} (h:w.heap[b]?=w'.heap[b]?) (p:Addr) (v:Value):(w.setCell p v).heap[b]?=(w'.setCell p v).heap[b]?:=by
 by_cases hp:b=p.block
 ·subst hp;simp[World.setCell,Array.getElem?_modify,h]
 ·rw[Below.heap_setCell _ _ _ _ hp,Below.heap_setCell _ _ _ _ hp];exact h
theorem qhR (L:List Spot):∀ {w w':World} {b:Nat} (_:w.heap[b]?=w'.heap[b]?) (k:Int),(qbF w L k).heap[b]?=(qbF w' L k).heap[b]?:=by
 induction L with
 | nil=>intro w w' b h k;exact h
 | cons s r ih=>intro w w' b h k;exact ih (qjA h _ _) _
structure Wrote (L:List Spot) (k:Int) (w w':World):Prop where
 os:w'.os=w.os
 tape:w'.tape=w.tape
 output:w'.output=w.output
 size:w.heap.size<=w'.heap.size
 block:∀ b:Nat,b<w.heap.size->w'.heap[b]?=(qbF w L k).heap[b]?
theorem Wrote.refl (k:Int) (w:World):Wrote [] k w w:=⟨rfl,rfl,rfl,Nat.le_refl _,fun _ _=>rfl⟩
theorem Wrote.below {L:List Spot} {k:Int} {w w1 w2:World} (h:Wrote L k w w1) (hb:Below w1.heap.size w1 w2):Wrote L k w w2:=
 ⟨hb.os.trans h.os,hb.tape.trans h.tape,hb.output.trans h.output,Nat.le_trans h.size hb.size,fun b hb'=>(hb.block b (Nat.lt_of_lt_of_le hb' h.size)).trans (h.block b hb')⟩
theorem Wrote.from_below {L:List Spot} {k:Int} {w w1 w2:World} (hb:Below w.heap.size w w1) (h:Wrote L k w1 w2):Wrote L k w w2:=
 ⟨h.os.trans hb.os,h.tape.trans hb.tape,h.output.trans hb.output,Nat.le_trans hb.size h.size,fun b hb'=>(h.block b (Nat.lt_of_lt_of_le hb' hb.size)).trans (qhR L (hb.block b hb') k)⟩
theorem Wrote.snoc {L:List Spot} {k:Int} {w w1:World} (h:Wrote L k w w1) (s:Spot):Wrote (L++[s]) k w (w1.setCell s.at (s.val (k+L.length))):=
 ⟨h.os,h.tape,h.output,by simpa using h.size,fun b hb=>by rw[qpT];exact qjA (h.block b hb) _ _⟩
theorem Wrote.trans {L M:List Spot} {k:Int} {w w1 w2:World} (h:Wrote L k w w1) (h2:Wrote M (k+L.length) w1 w2):Wrote (L++M) k w w2:=
 ⟨h2.os.trans h.os,h2.tape.trans h.tape,h2.output.trans h.output,Nat.le_trans h.size h2.size,fun b hb=>by
  rw[h2.block b (Nat.lt_of_lt_of_le hb h.size),qsB];exact qhR M (h.block b hb) _⟩
structure Sim (w w':World):Prop where
 int:∀ b o x,w.cell? ⟨b,o,none⟩=some (.int .i64 x)->∃ y,w'.cell? ⟨b,o,none⟩=some (.int .i64 y)
 str:∀ b o x,w.cell? ⟨b,o,none⟩=some (.string x)->∃ y,w'.cell? ⟨b,o,none⟩=some (.string y)
 sl:∀ b o a l c,w.cell? ⟨b,o,none⟩=some (.slice a l c)->w'.cell? ⟨b,o,none⟩=some (.slice a l c)
 fz:∀ b o,b<w.heap.size->w'.frozen? ⟨b,o,none⟩=w.frozen? ⟨b,o,none⟩
 size:w.heap.size<=w'.heap.size
theorem Sim.refl (w:World):Sim w w:=⟨fun _ _ x h=>⟨x,h⟩,fun _ _ x h=>⟨x,h⟩,fun _ _ _ _ _ h=>h,fun _ _ _=>rfl,Nat.le_refl _⟩
theorem Sim.trans {a b c:World} (h:Sim a b) (k:Sim b c):Sim a c:=by
 refine⟨fun b o x hx=>?_,fun b o x hx=>?_,fun b o _ _ _ hx=>k.sl _ _ _ _ _ (h.sl _ _ _ _ _ hx),fun b o hb=>?_,Nat.le_trans h.size k.size⟩
 ·obtain⟨y,hy⟩:=h.int b o x hx;exact k.int b o y hy
 ·obtain⟨y,hy⟩:=h.str b o x hx;exact k.str b o y hy
 ·rw[k.fz b o (Nat.lt_of_lt_of_le hb h.size),h.fz b o hb]
theorem Sim.below {a b c:World} (h:Sim a b) (hb:Below b.heap.size b c):Sim a c:=by
 refine h.trans ⟨fun b' o x hx=>?_,fun b' o x hx=>?_,fun b' o _ _ _ hx=>?_,fun b' o hb'=>hb.frozen (p:=⟨b',o,none⟩) hb',hb.size⟩
 ·exact⟨x,(hb.cell (p:=⟨b',o,none⟩) (mlt hx)).trans hx⟩
 ·exact⟨x,(hb.cell (p:=⟨b',o,none⟩) (mlt hx)).trans hx⟩
 ·exact (hb.cell (p:=⟨b',o,none⟩) (mlt hx)).trans hx
def Spot.ok (s:Spot) (w:World):Prop:=(if s.tx then ∃ x,w.cell? s.at=some (.string x) else ∃ x,w.cell? s.at=some (.int .i64 x))/\w.frozen? s.at=false
theorem Spot.ok_lt {s:Spot} {w:World} (h:s.ok w):s.b<w.heap.size:=by
 obtain⟨h,-⟩:=h
 cases ht:s.tx with
 | true=>rw[ht]at h;obtain⟨x,hx⟩:=h;exact mlt (o:=s.o) hx
 | false=>rw[ht]at h;obtain⟨x,hx⟩:=h;exact mlt (o:=s.o) hx
theorem Spot.ok_sim {s:Spot} {w w':World} (h:s.ok w) (hs:Sim w w'):s.ok w':=by
 have aA:=Spot.ok_lt h
 obtain⟨h1,h2⟩:=h
 refine⟨?_,(hs.fz s.b s.o aA).trans h2⟩
 cases ht:s.tx with
 | true=>
  rw[ht]at h1
  obtain⟨x,hx⟩:=h1
  exact hs.str s.b s.o x hx
 | false=>
  rw[ht]at h1
  obtain⟨x,hx⟩:=h1
  exact hs.int s.b s.o x hx
theorem xcJ {w:World} {s:Spot} (h:s.ok w) (k:Int):Sim w (w.setCell s.at (s.val k)):=by
 obtain⟨h1,-⟩:=h
 have other:∀ b o v,s.at≠⟨b,o,none⟩->w.cell? ⟨b,o,none⟩=some v->(w.setCell s.at (s.val k)).cell? ⟨b,o,none⟩=some v:=fun b o v he hv=>(World.cell?_setCell_other _ _ _ _ he).trans hv
 cases ht:s.tx with
 | true=>
  rw[ht]at h1
  obtain⟨u,hu⟩:=h1
  have hv:s.val k=.string (mt k):=by simp[Spot.val,ht]
  refine⟨fun b o x hx=>?_,fun b o x hx=>?_,fun b o _ _ _ hx=>?_,fun b o _=>World.frozen?_setCell _ _ _ _,by simp⟩
  ·exact⟨x,other b o _ (fun e=>by rw[<- e,hu]at hx;cases hx) hx⟩
  ·by_cases e:s.at=⟨b,o,none⟩
   ·rw[<- e]at hx ⊢
    exact⟨_,(World.cell?_setCell_same _ _ _ hx).trans (by rw[hv])⟩
   ·exact⟨x,other b o _ e hx⟩
  ·exact other b o _ (fun e=>by rw[<- e,hu]at hx;cases hx) hx
 | false=>
  rw[ht]at h1
  obtain⟨u,hu⟩:=h1
  have hv:s.val k=.int .i64 k:=by simp[Spot.val,ht]
  refine⟨fun b o x hx=>?_,fun b o x hx=>?_,fun b o _ _ _ hx=>?_,fun b o _=>World.frozen?_setCell _ _ _ _,by simp⟩
  ·by_cases e:s.at=⟨b,o,none⟩
   ·rw[<- e]at hx ⊢
    exact⟨_,(World.cell?_setCell_same _ _ _ hx).trans (by rw[hv])⟩
   ·exact⟨x,other b o _ e hx⟩
  ·exact⟨x,other b o _ (fun e=>by rw[<- e,hu]at hx;cases hx) hx⟩
  ·exact other b o _ (fun e=>by rw[<- e,hu]at hx;cases hx) hx
theorem qsC:∀ (L:List Spot) {w:World} (_:∀ s,s∈L->s.ok w) (k:Int),Sim w (qbF w L k):=by
 intro L
 induction L with
 | nil=>intro w _ k;exact Sim.refl w
 | cons s r ih=>
  intro w h k
  have h1:=xcJ (h s (List.mem_cons_self ..)) k
  exact h1.trans (ih (fun x hx=>Spot.ok_sim (h x (List.mem_cons_of_mem _ hx)) h1) (k+1))
theorem Wrote.sim {L:List Spot} {k:Int} {w w':World} (h:Wrote L k w w') (hL:∀ s,s∈L->s.ok w):Sim w w':=by
 have hs:=qsC L hL k
 have hc:∀ b o,b<w.heap.size->w'.cell? ⟨b,o,none⟩=(qbF w L k).cell? ⟨b,o,none⟩:=fun b o hb=>World.cell?_of_block (w:=qbF w L k) (w':=w') (a:=⟨b,o,none⟩) (h.block b hb)
 have hf:∀ b o,b<w.heap.size->w'.frozen? ⟨b,o,none⟩=(qbF w L k).frozen? ⟨b,o,none⟩:=fun b o hb=>by simp only[World.frozen?,h.block b hb]
 refine⟨fun b o x hx=>?_,fun b o x hx=>?_,fun b o _ _ _ hx=>?_,fun b o hb=>(hf b o hb).trans (hs.fz b o hb),h.size⟩
 ·rw[hc b o (mlt hx)];exact hs.int b o x hx
 ·rw[hc b o (mlt hx)];exact hs.str b o x hx
 ·rw[hc b o (mlt hx)];exact hs.sl b o _ _ _ hx
def Holds (w:World):List Spot->Int->Prop
 | [],_=>True
 | s :: r,k=>w.cell? s.at=some (s.val k)/\Holds w r (k+1)
theorem xgH:∀ {w:World} {L:List Spot} {k:Int},Holds w L k->∀ (i:Nat) (h:i<L.length),w.cell? L[i].at=some (L[i].val (k+i)):=by
 intro w L
 induction L with
 | nil=>intro k _ i h;exact absurd h (Nat.not_lt_zero _)
 | cons s r ih=>
  intro k hh i h
  cases i with
  | zero=>simpa using hh.1
  | succ i=>
   have:=ih hh.2 i (by simpa using h)
   simp only[List.getElem_cons_succ]
   rw[this,show k+1+(i:Int)=k+((i+1:Nat):Int) by omega]
theorem qgT {w:World}:∀ {L M:List Spot} {k:Int},Holds w (L++M) k->Holds w L k/\Holds w M (k+L.length):=by
 intro L
 induction L with
 | nil=>intro M k h;exact⟨trivial,by simpa using h⟩
 | cons s r ih=>
  intro M k h
  obtain⟨h1,h2⟩:=ih h.2
  exact⟨⟨h.1,h1⟩,by simp only[List.length_cons];rw[show k+((r.length+1:Nat):Int)=k+1+(r.length:Int) by omega];exact h2⟩
theorem qsD (p:Addr):∀ (L:List Spot) (w:World) (k:Int),(∀ s,s∈L->s.at≠p)->(qbF w L k).cell? p=w.cell? p:=by
 intro L
 induction L with
 | nil=>intro w k _;rfl
 | cons s r ih=>
  intro w k h
  rw[qbF,ih _ _ (fun x hx=>h x (List.mem_cons_of_mem _ hx)),World.cell?_setCell_other _ _ _ _ (h s (List.mem_cons_self ..))]
theorem qnN:∀ (L:List Spot) (w:World) (k:Int),(∀ s,s∈L->s.ok w)->L.Pairwise (fun a b=>a.at≠b.at)->Holds (qbF w L k) L k:=by
 intro L
 induction L with
 | nil=>intro w k _ _;trivial
 | cons s r ih=>
  intro w k h hp
  have aA:=List.pairwise_cons.1 hp
  have h1:=xcJ (h s (List.mem_cons_self ..)) k
  refine⟨?_,ih _ (k+1) (fun x hx=>Spot.ok_sim (h x (List.mem_cons_of_mem _ hx)) h1) aA.2⟩
  rw[qbF,qsD _ _ _ _ (fun x hx=>(aA.1 x hx).symm)]
  obtain⟨h2,-⟩:=h s (List.mem_cons_self ..)
  cases ht:s.tx with
  | true=>rw[ht]at h2;obtain⟨u,hu⟩:=h2;exact World.cell?_setCell_same _ _ _ hu
  | false=>rw[ht]at h2;obtain⟨u,hu⟩:=h2;exact World.cell?_setCell_same _ _ _ hu
theorem Holds.keep {w w':World}:∀ {L:List Spot} {k:Int},Holds w L k->(∀ s,s∈L->w'.cell? s.at=w.cell? s.at)->Holds w' L k:=by
 intro L
 induction L with
 | nil=>intro k _ _;trivial
 | cons s r ih=>intro k h hs;exact⟨(hs s (List.mem_cons_self ..)).trans h.1,ih h.2 (fun x hx=>hs x (List.mem_cons_of_mem _ hx))⟩
theorem xcK (W:World) (N:Nat) (c:UInt8) (h:W.cell? ⟨N,0,none⟩=some (.int .u8 (c.toNat:Int))):(convert 90 9 (.slice (some ⟨N,0,none⟩) 1 1)).run Tryz.prog W=.ok (.string (bs [c])) W:=
 run_convert_bytes_back (P:=Tryz.prog) W 90 9 5 ⟨N,0,none⟩ 1 [c] Tryz.underlying90 Tryz.underlying5 Tryz.underlying9 (fun j hj=>by
  match j,hj with
  | 0,_=>exact h)
theorem dig_eq (r:Nat) (h:r<10):(48:Int)+(r:Int)=((UInt8.ofNat (48+r)).toNat:Int):=by
 have:(UInt8.ofNat (48+r)).toNat=48+r:=by simp;omega
 rw[this];omega
theorem xgI {a b:ByteArray} (h:a=b):Ending.returned (.string a)=.returned (.string b):=by rw[h]
theorem qfS (k:Int) (w:World) (h0:1<=k) (h1:k<=1000000000):Calls Tryz.prog 36 #[.int .i64 k] w fun e w'=>e=.returned (.string (mt k))/\Below w.heap.size w w':=by
 have HL:Hid ((decM k.toNat).length<=1000000000):=by have:=xgG k.toNat;show _<=_;omega
 go_enter Tryz.func36,Tryz.ntmps36
 go_wp2_with fail
 go_loopw [0,3] (fun a b wr=>∃ (x:Nat) (acc:List UInt8),a=.int .i64 x/\b=.string (bs acc)/\decM x++acc=decM k.toNat/\x<=1000000000/\Below w.heap.size w wr) (fun a _ _=>(intOf a).toNat)
 case atStart=>exact⟨k.toNat,[],by congr 1;omega,rfl,by simp,by omega,Below.refl _ _⟩
 case round=>
  obtain⟨x,acc,rfl,rfl,aB,hx,aC⟩:=hrel
  have aD:acc.length<=1000000000:=by have h:=HL.out;rw[<- aB]at h;simp at h;omega
  have aA:=hidF aB
  clear aB
  by_cases hx0:0<x
  ·have HD:Hid (decM (x / 10)++(UInt8.ofNat (48+x % 10) :: acc)=decM k.toNat):=by
    show _=_
    have h:=aA.out
    rw[qwL x (by omega)]at h
    rw[<- h];simp
   have aF:∀ (W:World) (N:Nat),W.cell? ⟨N,0,none⟩=some (.int .u8 (48+(x:Int) % 10))->(convert 90 9 (.slice (some ⟨N,0,none⟩) 1 1)).run Tryz.prog W=.ok (.string (bs [UInt8.ofNat (48+x % 10)])) W:=fun W N hN=>by
    refine xcK W N (UInt8.ofNat (48+x % 10)) ?_
    rw[hN,<- dig_eq (x % 10) (by omega),show (((x % 10:Nat)):Int)=(x:Int) % 10 by omega]
   have aG:=aF (wr.alloc (.cells #[.int .u8 (48+(x:Int) % 10)] 5)) wr.heap.size (by simp[go_sem])
   clear aF
   generalize UInt8.ofNat (48+x % 10)=c at *
   have HA:Hid (bs [c]++bs acc=bs (c :: acc)):=by show _=_;rw[qaU];rfl
   have aJ:(bs [c]).size=1:=by rw[qaJ];rfl
   have aH:(bs acc).size<=1000000000:=by rw[qaJ];exact aD
   have aK:IntKind.i64.wrap ((x:Int) / 10)=(x:Int) / 10:=by rw[IntKind.wrap_i64];omega
   have aL:IntKind.i64.wrap ((x:Int) % 10)=(x:Int) % 10:=by rw[IntKind.wrap_i64];omega
   have aM:IntKind.i64.wrap (48+(x:Int) % 10)=48+(x:Int) % 10:=by rw[IntKind.wrap_i64];omega
   have aN:IntKind.u8.wrap (48+(x:Int) % 10)=48+(x:Int) % 10:=by rw[IntKind.wrap_u8];omega
   have aO:(x:Int).tmod 10=(x:Int) % 10:=Int.tmod_eq_emod_of_nonneg (by omega)
   have aP:(x:Int).tdiv 10=(x:Int) / 10:=Int.tdiv_eq_ediv_of_nonneg (by omega)
   have aQ:(0:Int)<(x:Int):=by omega
   have aE:=aC.alloc aC.size (.cells #[.int .u8 (48+(x:Int) % 10)] 5)
   clear aA
   go_wp2_with fail
   go_roundw
   case rel=>exact⟨x / 10,c :: acc,by congr 1,by rw[<- HA.out],HD.out,by omega,aE⟩
   case measure=>simp[intOf];omega
  ·have aI:x=0:=by omega
   subst aI
   have HA:Hid (bs [109]++bs acc=mt k):=by
    show _=_
    have h:=aA.out
    rw[qsA,List.nil_append]at h
    rw[mt,<- h,qaU];rfl
   have aH:(bs acc).size<=1000000000:=by rw[qaJ];exact aD
   clear aA
   go_wp2_with fail
   go_ret
   exact⟨xgI HA.out,aC⟩
end Go.Proofs.YtelogmjfekhmpaaGreatDoor
