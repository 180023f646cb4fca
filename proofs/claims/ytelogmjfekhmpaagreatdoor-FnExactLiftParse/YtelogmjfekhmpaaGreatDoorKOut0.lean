import Derived.Test.YtelogmjfekhmpaaGreatDoorMarkK
import Derived.Test.YtelogmjfekhmpaaGreatDoorOwn0
namespace Go.Proofs.YtelogmjfekhmpaaGreatDoor
open Go.RowKit
theorem SpK.same {w w':World}:∀ {n:Nat} {v:Value} {L:List Spot},SpK w n v L->(∀ s,s∈L->w'.heap[s.b]?=w.heap[s.b]?)->SpK w' n v L:=by
 intro n
 induction n with
 | zero=>intro v L h _;exact h
 | succ n ih=>
  rintro v L ⟨ao,cap,Ls,hv,hl,rfl,hi⟩ hb
  refine⟨ao,cap,Ls,hv,hl,rfl,fun i h=>?_⟩
  obtain⟨b,off,c3,c4,L3,L4,ha,aB,aC,h3,h4,hn,hr⟩:=hi i h
  have hm:∀ s,s∈Ls[i]->w'.heap[s.b]?=w.heap[s.b]?:=fun s hs=>hb s (List.mem_flatten.2 ⟨_,List.getElem_mem h,hs⟩)
  rw[aB]at hm
  have aA:w'.heap[b]?=w.heap[b]?:=hm ⟨b,off+i*3,false⟩ (by simp)
  refine⟨b,off,c3,c4,L3,L4,ha,aB,Spot.ok_same aC aA,?_,?_,hn.same (fun s hs=>hm s (by simp[hs])),ih hr (fun s hs=>hm s (by simp[hs]))⟩
  ·exact (World.cell?_of_block (w:=w) (w':=w') (a:=⟨b,off+i*3+1,none⟩) aA).trans h3
  ·exact (World.cell?_of_block (w:=w) (w':=w') (a:=⟨b,off+i*3+2,none⟩) aA).trans h4
theorem SpK.no (w:World) (n:Nat):SpK w n (.slice none 0 0) []:=by
 cases n with
 | zero=>exact⟨none,0,rfl,rfl⟩
 | succ n=>exact⟨none,0,[],rfl,by simp[maxLen],rfl,fun i h=>absurd h (Nat.not_lt_zero _)⟩
def qlH (P:Nat->Prop) (w:World) (n:Nat) (ks:List (K n)) (xs:List Value) (Ps:List (List Spot)):Prop:=
 Own P Ps.flatten/\∀ j (h:j<ks.length) (hp:j<Ps.length),∃ c0 c1 c2 L3 L4,(xs[j*3]?=some c0/\xs[j*3+1]?=some c1/\xs[j*3+2]?=some c2)/\Ps[j]=L3++L4 /\
  KindIn P w n ks[j] c0 c1 c2/\SpN w c1 L3/\SpK w (n - 1) c2 L4
theorem quO {n:Nat} {w:World} {M:Nat} {e:TypeId} {v:Value} {l:List (K n)} {xs:List Value} {Ps:List (List Spot)} {P:Nat->Prop} (h:w.ownsRow M e 3 v l.length xs) (hl:l.length<=20000) (hlp:Ps.length=l.length) (hk:qlH P w n l xs Ps) (hP:∀ b,P b->v.ownBlock≠some b) :
  ∃ L,SpK w n v L/\Own (fun b=>P b∨v.ownBlock=some b) L/\L.length=l.length+Ps.flatten.length:=by
 rcases id h.2 with ⟨rfl,h0⟩|⟨g,cap,cur,rfl,aL,hg,aM,aN,aO,aH⟩
 ·have:Ps=[]:=List.eq_nil_of_length_eq_zero (by omega)
  subst this
  exact⟨[],SpK.no w n,Own.nil _,by simp[h0]⟩
 ·have aI:∀ (i:Nat),i<l.length->n≠0:=by
   intro i hi hn
   subst hn
   obtain⟨c0,c1,c2,L3,L4,-,-,ht,-⟩:=hk.2 i hi (by omega)
   exact ht.elim
  have aB:∀ i (hi:i<l.length),((List.range l.length).map (fun i=>([⟨g,0+i*3,false⟩]:List Spot)++Ps.getD i []))[i]'(by simpa using hi)=([⟨g,0+i*3,false⟩]:List Spot)++Ps[i]'(by omega):=by
   intro i hi
   have:i<Ps.length:=by omega
   simp[List.getD,this]
  have aC:Own (fun b=>P b∨(Value.slice (some ⟨g,0,none⟩) l.length cap).ownBlock=some b) ((List.range l.length).map (fun i=>([⟨g,0+i*3,false⟩]:List Spot)++Ps.getD i [])).flatten:=by
   have aF:=List.pairwise_flatten.1 hk.1.2
   have aA:∀ i s,s∈Ps.getD i []->P s.b:=fun i s hs=>by
    by_cases hi:i<Ps.length
    ·rw[List.getD_eq_getElem?_getD,List.getElem?_eq_getElem hi,Option.getD_some]at hs
     exact hk.1.1 s (List.mem_flatten.2 ⟨_,List.getElem_mem hi,hs⟩)
    ·rw[List.getD_eq_getElem?_getD,List.getElem?_eq_none (by omega)]at hs;cases hs
   have h5:∀ o (s:Spot),s∈([⟨g,o,false⟩]:List Spot)->s.b=g/\s.o=o:=fun o s hs=>by
    rw[List.mem_singleton]at hs;subst hs;exact⟨rfl,rfl⟩
   have aD:∀ (s:Spot),P s.b->s.b≠g:=fun s hs e=>hP g (by rw[<- e];exact hs) rfl
   refine⟨fun s hs=>?_,List.pairwise_flatten.2 ⟨fun x hx=>?_,?_⟩⟩
   ·obtain⟨x,hx,aJ⟩:=List.mem_flatten.1 hs
    obtain⟨i,hi,rfl⟩:=List.mem_map.1 hx
    rcases List.mem_append.1 aJ with h1|h1
    ·right;rw[(h5 _ s h1).1];rfl
    ·left;exact aA i s h1
   ·obtain⟨i,hi,rfl⟩:=List.mem_map.1 hx
    refine List.pairwise_append.2 ⟨List.pairwise_singleton _ _,?_,fun a ha b hb=>at_ne fun e=>aD b (aA i b hb) (by rw[<- e,(h5 _ a ha).1])⟩
    by_cases hi:i<Ps.length
    ·rw[List.getD_eq_getElem?_getD,List.getElem?_eq_getElem hi,Option.getD_some]
     exact aF.1 _ (List.getElem_mem hi)
    ·rw[List.getD_eq_getElem?_getD,List.getElem?_eq_none (by omega)];exact List.Pairwise.nil
   ·refine List.pairwise_map.2 (List.Pairwise.imp (fun {i j} hij a ha b hb=>?_) List.pairwise_lt_range)
    rcases List.mem_append.1 ha with h1|h1
    ·rcases List.mem_append.1 hb with h2|h2
     ·intro e
      have e':a.o=b.o:=by simpa [Spot.at] using congrArg Addr.off e
      have q1:=(h5 _ a h1).2
      have q2:=(h5 _ b h2).2
      omega
     ·exact at_ne fun e=>aD b (aA j b h2) (by rw[<- e,(h5 _ a h1).1])
    ·rcases List.mem_append.1 hb with h2|h2
     ·exact at_ne fun e=>aD a (aA i a h1) (by rw[e,(h5 _ b h2).1])
     ·by_cases hj:j<Ps.length
      ·rw[List.getD_eq_getElem?_getD,List.getElem?_eq_getElem hj,Option.getD_some]at h2
       rw[List.getD_eq_getElem?_getD,List.getElem?_eq_getElem (by omega:i<Ps.length),Option.getD_some]at h1
       exact (List.pairwise_iff_getElem.1 aF.2) i j (by omega) hj hij a h1 b h2
      ·rw[List.getD_eq_getElem?_getD,List.getElem?_eq_none (by omega)]at h2;cases h2
  have aE:((List.range l.length).map (fun i=>([⟨g,0+i*3,false⟩]:List Spot)++Ps.getD i [])).flatten.length=l.length+Ps.flatten.length:=by
   have e:Ps=(List.range l.length).map (fun i=>Ps.getD i []):=by
    refine List.ext_getElem (by simp[hlp]) fun i h1 h2=>?_
    simp[List.getD,h1]
   conv=>rhs;rw[e]
   generalize l.length=m
   induction m with
   | zero=>rfl
   | succ m ih=>
    rw[List.range_succ,List.map_append,List.flatten_append,List.length_append,ih,List.map_append,List.flatten_append,List.length_append]
    simp;omega
  refine⟨_,?_,aC,aE⟩
  cases n with
  | zero=>
   have h0:l.length=0:=Nat.eq_zero_of_not_pos fun hpos=>aI 0 hpos rfl
   exact⟨some ⟨g,0,none⟩,cap,by rw[h0],by rw[h0];rfl⟩
  | succ m=>
   refine⟨some ⟨g,0,none⟩,cap,_,by rw[List.length_map,List.length_range],by simp[maxLen];omega,rfl,fun i hi=>?_⟩
   have aG:i<l.length:=by simpa using hi
   obtain⟨c0,c1,c2,L3,L4,⟨e0,e1,e2⟩,aK,ht,h3,h4⟩:=hk.2 i aG (by omega)
   have hc:∀ j u,xs[j]?=some u->w.cell? ⟨g,0+j,none⟩=some u:=fun j u hu=>by
    have:=h.cells (g:=g) rfl j u hu
    rwa [Addr.add_lit]at this
   obtain⟨rfl,-⟩:=ht
   have hf:∀ o,w.frozen? ⟨g,o,none⟩=false:=fun o=>by simp[World.frozen?,hg]
   exact⟨g,0,c1,c2,L3,L4,rfl,by rw[aB i aG,aK],⟨⟨_,hc _ _ e0⟩,hf _⟩,hc _ _ e1,hc _ _ e2,h3,h4⟩
end Go.Proofs.YtelogmjfekhmpaaGreatDoor
