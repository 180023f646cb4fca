import Derived.Test.YtelogmjfekhmpaaGreatDoorMN0
import Derived.Test.YtelogmjfekhmpaaGreatDoorTOut0
namespace Go.Proofs.YtelogmjfekhmpaaGreatDoor
open Go.RowKit
def KidsOwnN (P:Nat->Prop) (w:World) (n:Nat) (ks:List (T n)) (xs:List Value) (Ps:List (List Spot)):Prop:=
 Own P Ps.flatten/\∀ j (h:j<ks.length) (hp:j<Ps.length),∃ c0 c1 c2 c3 c4 L3 L4,(xs[j*5]?=some c0/\xs[j*5+1]?=some c1/\xs[j*5+2]?=some c2/\xs[j*5+3]?=some c3/\xs[j*5+4]?=some c4)/\Ps[j]=L3++L4 /\
  NodeIn P w n ks[j] c0 c1 c2 c3 c4/\SpN w c3 L3/\SpR w (n - 1) c4 L4
theorem qsR {n:Nat} {w:World} {M:Nat} {e:TypeId} {v:Value} {l:List (T n)} {xs:List Value} {Ps:List (List Spot)} {P:Nat->Prop} (h:w.ownsRow M e 5 v l.length xs) (hl:l.length<=20000) (hlp:Ps.length=l.length) (hk:KidsOwnN P w n l xs Ps) (hP:∀ b,P b->v.ownBlock≠some b) :
  ∃ L,SpR w n v L/\Own (fun b=>P b∨v.ownBlock=some b) L/\L.length=3*l.length+Ps.flatten.length:=by
 rcases id h.2 with ⟨rfl,h0⟩|⟨g,cap,cur,rfl,aL,hg,aM,aN,aO,aH⟩
 ·have:Ps=[]:=List.eq_nil_of_length_eq_zero (by omega)
  subst this
  exact⟨[],SpR.no w n,Own.nil _,by simp[h0]⟩
 ·have aI:∀ (i:Nat),i<l.length->n≠0:=by
   intro i hi hn
   subst hn
   obtain⟨c0,c1,c2,c3,c4,L3,L4,-,-,ht,-⟩:=hk.2 i hi (by omega)
   exact ht.elim
  have aB:∀ i (hi:i<l.length),((List.range l.length).map (fun i=>sp5 g (0+i*5)++Ps.getD i []))[i]'(by simpa using hi)=sp5 g (0+i*5)++Ps[i]'(by omega):=by
   intro i hi
   have:i<Ps.length:=by omega
   simp[List.getD,this]
  have aC:Own (fun b=>P b∨(Value.slice (some ⟨g,0,none⟩) l.length cap).ownBlock=some b) ((List.range l.length).map (fun i=>sp5 g (0+i*5)++Ps.getD i [])).flatten:=by
   have aF:=List.pairwise_flatten.1 hk.1.2
   have aA:∀ i s,s∈Ps.getD i []->P s.b:=fun i s hs=>by
    by_cases hi:i<Ps.length
    ·rw[List.getD_eq_getElem?_getD,List.getElem?_eq_getElem hi,Option.getD_some]at hs
     exact hk.1.1 s (List.mem_flatten.2 ⟨_,List.getElem_mem hi,hs⟩)
    ·rw[List.getD_eq_getElem?_getD,List.getElem?_eq_none (by omega)]at hs;cases hs
   have h5:∀ o (s:Spot),s∈sp5 g o->s.b=g/\o<=s.o/\s.o<=o+2:=fun o s hs=>by
    simp only[sp5,List.mem_cons,List.not_mem_nil,or_false]at hs
    rcases hs with rfl|rfl|rfl <;> exact⟨rfl,by simp,by simp⟩
   have aD:∀ (s:Spot),P s.b->s.b≠g:=fun s hs e=>hP g (by rw[<- e];exact hs) rfl
   refine⟨fun s hs=>?_,List.pairwise_flatten.2 ⟨fun x hx=>?_,?_⟩⟩
   ·obtain⟨x,hx,aJ⟩:=List.mem_flatten.1 hs
    obtain⟨i,hi,rfl⟩:=List.mem_map.1 hx
    rcases List.mem_append.1 aJ with h1|h1
    ·right;rw[(h5 _ s h1).1];rfl
    ·left;exact aA i s h1
   ·obtain⟨i,hi,rfl⟩:=List.mem_map.1 hx
    refine List.pairwise_append.2 ⟨?_,?_,fun a ha b hb=>at_ne fun e=>aD b (aA i b hb) (by rw[<- e,(h5 _ a ha).1])⟩
    ·simp[sp5,Spot.at]
    ·by_cases hi:i<Ps.length
     ·rw[List.getD_eq_getElem?_getD,List.getElem?_eq_getElem hi,Option.getD_some]
      exact aF.1 _ (List.getElem_mem hi)
     ·rw[List.getD_eq_getElem?_getD,List.getElem?_eq_none (by omega)];exact List.Pairwise.nil
   ·refine List.pairwise_map.2 (List.Pairwise.imp (fun {i j} hij a ha b hb=>?_) List.pairwise_lt_range)
    rcases List.mem_append.1 ha with h1|h1
    ·rcases List.mem_append.1 hb with h2|h2
     ·intro e
      have e':a.o=b.o:=by simpa [Spot.at] using congrArg Addr.off e
      have q1:=(h5 _ a h1).2.2
      have q2:=(h5 _ b h2).2.1
      omega
     ·exact at_ne fun e=>aD b (aA j b h2) (by rw[<- e,(h5 _ a h1).1])
    ·rcases List.mem_append.1 hb with h2|h2
     ·exact at_ne fun e=>aD a (aA i a h1) (by rw[e,(h5 _ b h2).1])
     ·by_cases hj:j<Ps.length
      ·rw[List.getD_eq_getElem?_getD,List.getElem?_eq_getElem hj,Option.getD_some]at h2
       rw[List.getD_eq_getElem?_getD,List.getElem?_eq_getElem (by omega:i<Ps.length),Option.getD_some]at h1
       exact (List.pairwise_iff_getElem.1 aF.2) i j (by omega) hj hij a h1 b h2
      ·rw[List.getD_eq_getElem?_getD,List.getElem?_eq_none (by omega)]at h2;cases h2
  have aE:((List.range l.length).map (fun i=>sp5 g (0+i*5)++Ps.getD i [])).flatten.length=3*l.length+Ps.flatten.length:=by
   have e:Ps=(List.range l.length).map (fun i=>Ps.getD i []):=by
    refine List.ext_getElem (by simp[hlp]) fun i h1 h2=>?_
    simp[List.getD,h1]
   conv=>rhs;rw[e]
   generalize l.length=m
   induction m with
   | zero=>rfl
   | succ m ih=>
    rw[List.range_succ,List.map_append,List.flatten_append,List.length_append,ih,List.map_append,List.flatten_append,List.length_append]
    simp[sp5];omega
  refine⟨_,?_,aC,aE⟩
  cases n with
  | zero=>
   have h0:l.length=0:=Nat.eq_zero_of_not_pos fun hpos=>aI 0 hpos rfl
   exact⟨some ⟨g,0,none⟩,cap,by rw[h0],by rw[h0];rfl⟩
  | succ m=>
   refine⟨some ⟨g,0,none⟩,cap,_,by rw[List.length_map,List.length_range],by simp[maxLen];omega,rfl,fun i hi=>?_⟩
   have aG:i<l.length:=by simpa using hi
   obtain⟨c0,c1,c2,c3,c4,L3,L4,⟨e0,e1,e2,e3,e4⟩,aK,ht,h3,h4⟩:=hk.2 i aG (by omega)
   have hc:∀ j u,xs[j]?=some u->w.cell? ⟨g,0+j,none⟩=some u:=fun j u hu=>by
    have:=h.cells (g:=g) rfl j u hu
    rwa [Addr.add_lit]at this
   obtain⟨rfl,rfl,rfl,-⟩:=ht
   refine⟨g,0,c3,c4,L3,L4,rfl,by rw[aB i aG,aK],fun s hs=>?_,hc _ _ e3,hc _ _ e4,h3,h4⟩
   have hf:∀ o,w.frozen? ⟨g,o,none⟩=false:=fun o=>by simp[World.frozen?,hg]
   simp only[sp5,List.mem_cons,List.not_mem_nil,or_false]at hs
   rcases hs with rfl|rfl|rfl
   ·exact⟨⟨_,hc _ _ e0⟩,hf _⟩
   ·exact⟨⟨_,hc _ _ e1⟩,hf _⟩
   ·exact⟨⟨_,hc _ _ e2⟩,hf _⟩
def OwnN (P:Nat->Prop) (w:World) (n:Nat) (t:T n) (c3 c4:Value):Prop:=∃ L3 L4,SpN w c3 L3/\SpR w (n - 1) c4 L4/\Own P (L3++L4)/\(L3++L4).length=spL n t
theorem OwnN.keep {P P':Nat->Prop} {w w':World} {n:Nat} {t:T n} {c3 c4:Value} (h:OwnN P w n t c3 c4) (hb:∀ b,P b->w'.heap[b]?=w.heap[b]?) (hP:∀ b,P b->P' b):OwnN P' w' n t c3 c4:=by
 obtain⟨L3,L4,h3,h4,ho,hl⟩:=h
 exact⟨L3,L4,h3.same (fun s hs=>hb _ (ho.1 s (List.mem_append_left _ hs))),h4.same (fun s hs=>hb _ (ho.1 s (List.mem_append_right _ hs))),ho.mono hP,hl⟩
theorem KidsOwnN.keep {P P':Nat->Prop} {w w':World} {n:Nat} {ks:List (T n)} {xs:List Value} {Ps:List (List Spot)} (h:KidsOwnN P w n ks xs Ps) (hb:∀ b,P b->w'.heap[b]?=w.heap[b]?) (hP:∀ b,P b->P' b):KidsOwnN P' w' n ks xs Ps:=by
 refine⟨h.1.mono hP,fun j hj hp=>?_⟩
 obtain⟨c0,c1,c2,c3,c4,L3,L4,hx,aA,ht,h3,h4⟩:=h.2 j hj hp
 have hm:∀ s,s∈L3++L4->w'.heap[s.b]?=w.heap[s.b]?:=fun s hs=>hb _ (h.1.1 s (List.mem_flatten.2 ⟨_,List.getElem_mem hp,by rw[aA];exact hs⟩))
 exact⟨c0,c1,c2,c3,c4,L3,L4,hx,aA,ht.keep (fun b h=>hb b h) hP,h3.same (fun s hs=>hm s (List.mem_append_left _ hs)),h4.same (fun s hs=>hm s (List.mem_append_right _ hs))⟩
theorem KidsOwnN.snoc {P Q:Nat->Prop} {w:World} {n:Nat} {ks:List (T n)} {xs:List Value} {Ps:List (List Spot)} {t:T n} {c0 c1 c2 c3 c4:Value} {L3 L4:List Spot} (h:KidsOwnN P w n ks xs Ps) (hpl:Ps.length=ks.length) (hxl:xs.length=ks.length*5) (ht:NodeIn Q w n t c0 c1 c2 c3 c4) (h3:SpN w c3 L3) (h4:SpR w (n - 1) c4 L4) (ho:Own Q (L3++L4)) (hd:∀ b,P b->Q b->False) :
  KidsOwnN (fun b=>P b∨Q b) w n (ks++[t]) (xs++[c0,c1,c2,c3,c4]) (Ps++[L3++L4]):=by
 refine⟨?_,fun j hj hp=>?_⟩
 ·rw[List.flatten_append,List.flatten_singleton]
  exact h.1.app ho (fun b hb=>.inl hb) (fun b hb=>.inr hb) hd
 ·by_cases hjk:j<ks.length
  ·have aA:j<Ps.length:=by omega
   obtain⟨d0,d1,d2,d3,d4,K3,K4,hx,aC,aD,aE,aF⟩:=h.2 j hjk aA
   refine⟨d0,d1,d2,d3,d4,K3,K4,?_,by rw[List.getElem_append_left aA];exact aC,?_,aE,aF⟩
   ·rw[List.getElem?_append_left (by omega),List.getElem?_append_left (by omega),List.getElem?_append_left (by omega),List.getElem?_append_left (by omega),List.getElem?_append_left (by omega)]
    exact hx
   ·rw[List.getElem_append_left hjk]
    exact aD.keep (fun _ _=>rfl) (fun b hb=>.inl hb)
  ·have aB:j=ks.length:=by
    rw[List.length_append,List.length_singleton]at hj;omega
   subst aB
   refine⟨c0,c1,c2,c3,c4,L3,L4,?_,by simp[<- hpl],?_,h3,h4⟩
   ·rw[List.getElem?_append_right (by omega),List.getElem?_append_right (by omega),List.getElem?_append_right (by omega),List.getElem?_append_right (by omega),List.getElem?_append_right (by omega),hxl,
     Nat.sub_self,show ks.length*5+1 - ks.length*5=1 by omega,show ks.length*5+2 - ks.length*5=2 by omega,show ks.length*5+3 - ks.length*5=3 by omega,show ks.length*5+4 - ks.length*5=4 by omega]
    exact⟨rfl,rfl,rfl,rfl,rfl⟩
   ·rw[List.getElem_append_right (Nat.le_refl _)]
    simp only[Nat.sub_self,List.getElem_cons_zero]
    exact ht.keep (fun _ _=>rfl) (fun b hb=>.inr hb)
theorem qyX {α:Type} (f:α->Nat) (l:List α) (x:α):sumL f (l++[x])=sumL f l+f x:=by
 induction l with
 | nil=>simp[sumL]
 | cons a r ih=>simp only[List.cons_append,sumL,ih];omega
structure ManyNP (R X Y n:Nat) (w wr:World) (so nm:Int) (tx:ByteArray) (ns:List ByteArray) (ks:List (T n)) (nv kv:Value):Prop extends ManyN R X Y n w wr so nm tx ns ks nv kv where
 own:∃ xs Ps,wr.ownsRow (Y+1) 25 5 kv ks.length xs/\Ps.length=ks.length/\KidsOwnN (Far (Y+1) nv kv wr.heap.size) wr n ks xs Ps/\Ps.flatten.length+3*ks.length=sumL (fun x=>3+spL n x) ks
theorem ManyNP.start {R X Y n:Nat} {w wr:World} {so nm:Int} {tx:ByteArray} (h:ManyN R X Y n w wr so nm tx [] [] (.slice none 0 0) (.slice none 0 0)):ManyNP R X Y n w wr so nm tx [] [] (.slice none 0 0) (.slice none 0 0):=
 ⟨h,[],[],⟨rfl,.inl ⟨rfl,rfl⟩⟩,rfl,⟨Own.nil _,fun _ hj=>absurd hj (Nat.not_lt_zero _)⟩,rfl⟩
theorem ManyNP.keep {R X Y n:Nat} {w wr W:World} {so nm:Int} {tx:ByteArray} {ns:List ByteArray} {ks:List (T n)} {nv kv:Value} (h:ManyNP R X Y n w wr so nm tx ns ks nv kv) (hRX:R<X) (hn:Near R wr W):ManyNP R X Y n w W so nm tx ns ks nv kv:=by
 obtain⟨xs,Ps,hx,hp,hk,hl⟩:=h.own
 have aA:=h.xy
 refine⟨h.toManyN.keep hRX hn,xs,Ps,qaL hx fun g hg=>?_,hp,hk.keep (fun b hb=>?_) (fun b hb=>⟨hb.1,Nat.lt_of_lt_of_le hb.2.1 hn.size,hb.2.2⟩),hl⟩
 ·have:=qaF hx g hg
  exact hn.block g this.2 (by omega)
 ·have:=hb.1
  exact hn.block b hb.2.1 (by omega)
theorem ManyNP.name {R X Y n:Nat} {w W Wa W2:World} {so nm:Int} {tx:ByteArray} {ns:List ByteArray} {ks:List (T n)} {nv kv:Value} {x:ByteArray} {one:Obj} {g cap:Nat} (h:ManyNP R X Y n w W so nm tx ns ks nv kv) (hw:w.heap.size<=X)
  (ha:Wa.heap=W.heap.push one) (ho:Wa.os=W.os/\Wa.tape=W.tape/\Wa.output=W.output) (hx:x.size<=10000)
  (hown:W2.ownsRow (Y+1) 9 1 (.slice (some ⟨g,0,none⟩) (ns.length+1) cap) (ns.length+1) (ns.map .string++[.string x])) (hgrow:Wa.grownBy W2 nv.ownBlock) (hat:nv.ownBlock=some g∨g=W.heap.size+1) :
  ManyNP R X Y n w (W2.setCell ⟨X,3,none⟩ (.slice (some ⟨g,0,none⟩) (ns.length+1) cap)) so nm tx (ns++[x]) ks (.slice (some ⟨g,0,none⟩) (ns.length+1) cap) kv:=by
 have hM:=h.toManyN.name hw ha ho hx hown hgrow hat
 have hX:=h.lt
 have aB:=h.xy
 have hz:W2.heap.size ≥ W.heap.size+1:=by have:=hgrow.size;rw[ha]at this;simp at this;omega
 have aE:=qaF h.names
 have q:∀ b,b<W.heap.size->nv.ownBlock≠some b->W2.heap[b]?=W.heap[b]?:=fun b hb hne=>by
  rw[hgrow.block b (by rw[ha];simp;omega) (fun e=>hne e.symm),ha,Array.getElem?_push_lt hb,Array.getElem?_eq_getElem hb]
 have qs:∀ b,b≠X->(W2.setCell ⟨X,3,none⟩ (.slice (some ⟨g,0,none⟩) (ns.length+1) cap)).heap[b]?=W2.heap[b]?:=fun b hb=>Below.heap_setCell _ _ _ _ hb
 have aC:(W2.setCell ⟨X,3,none⟩ (.slice (some ⟨g,0,none⟩) (ns.length+1) cap)).heap.size=W2.heap.size:=by simp
 obtain⟨xs,Ps,aA,hp,hk,hl⟩:=h.own
 have aB:=h.xy
 have aD:=qaF aA
 refine⟨hM,xs,Ps,qaL aA fun g' hg'=>?_,hp,hk.keep (fun b hb=>?_) (fun b hb=>?_),hl⟩
 ·have:=aD g' hg'
  rw[qs g' (by omega),q g' this.2 (fun e=>h.apart g' e hg')]
 ·have h1:=hb.1
  rw[qs b (by omega),q b hb.2.1 hb.2.2.1]
 ·refine⟨hb.1,by rw[aC];have:=hb.2.1;omega,?_,hb.2.2.2⟩
  intro e
  have e:g=b:=by simpa [Value.ownBlock] using e
  rcases hat with h1|h1
  ·exact hb.2.2.1 (by rw[h1,e])
  ·have:=hb.2.1;omega
theorem ManyNP.owns {R X Y n:Nat} {w wr:World} {so nm:Int} {tx:ByteArray} {ns:List ByteArray} {ks:List (T n)} {nv kv:Value} (h:ManyNP R X Y n w wr so nm tx ns ks nv kv) (hns:ns.length<=20000) (hks:ks.length<=20000) :
  OwnN (fun b=>X<=b/\b<wr.heap.size) wr (n+1) (⟨so,nm,tx,ns,ks⟩:Nd (T n)) nv kv:=by
 obtain⟨xs,Ps,aA,hp,hk,hl⟩:=h.own
 have aD:=h.xy
 obtain⟨L3,h3,l3,o3⟩:=qiB h.names hns
 obtain⟨L4,h4,o4,l4⟩:=qsR aA hks hp hk (fun b hb=>hb.2.2.2)
 have aB:=qaF h.names
 have aC:=qaF aA
 refine⟨L3,L4,h3,h4,o3.app o4 (fun b hb=>?_) (fun b hb=>?_) (fun b h1 h2=>?_),?_⟩
 ·have:=aB b hb
  exact⟨by omega,this.2⟩
 ·rcases hb with hb|hb
  ·have:=hb.1
   exact⟨by omega,hb.2.1⟩
  ·have:=aC b hb
   exact⟨by omega,this.2⟩
 ·rcases h2 with h2|h2
  ·exact h2.2.2.1 h1
  ·exact h.apart b h1 h2
 ·rw[List.length_append,l3,l4]
  show _=ns.length+sumL (fun k=>3+spL n k) ks
  omega
theorem ManyNP.put {R X Y n o:Nat} {w wr:World} {so nm nm':Int} {tx tx':ByteArray} {ns:List ByteArray} {ks:List (T n)} {nv kv v:Value} (h:ManyNP R X Y n w wr so nm tx ns ks nv kv) (hw:w.heap.size<=X)
  (ho:(o=1/\v=.int .i64 nm' /\ tx'=tx)∨(o=2/\v=.string tx' /\ nm'=nm)):ManyNP R X Y n w (wr.setCell ⟨X,o,none⟩ v) so nm' tx' ns ks nv kv:=by
 have qs:∀ b,b≠X->(wr.setCell ⟨X,o,none⟩ v).heap[b]?=wr.heap[b]?:=fun b hb=>Below.heap_setCell _ _ _ _ hb
 have aA:(wr.setCell ⟨X,o,none⟩ v).heap.size=wr.heap.size:=by simp
 obtain⟨xs,Ps,hx,hp,hk,hl⟩:=h.own
 have aB:=h.xy
 exact⟨h.toManyN.put hw ho,xs,Ps,qaL hx fun g hg=>qs g (by have:=qaF hx g hg;omega),hp,hk.keep (fun b hb=>qs b (by have:=hb.1;omega)) (fun b hb=>⟨hb.1,by rw[aA];exact hb.2.1,hb.2.2⟩),hl⟩
end Go.Proofs.YtelogmjfekhmpaaGreatDoor
