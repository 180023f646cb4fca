import Derived.Test.YtelogmjfekhmpaaGreatDoorMarkS
namespace Go.Proofs.YtelogmjfekhmpaaGreatDoor
open Go.RowKit
def Own (P:Nat->Prop) (L:List Spot):Prop:=(∀ s,s∈L->P s.b)/\L.Pairwise (fun a b=>a.at≠b.at)
theorem Own.nil (P:Nat->Prop):Own P []:=⟨fun _ h=>(by cases h),List.Pairwise.nil⟩
theorem Own.mono {P Q:Nat->Prop} {L:List Spot} (h:Own P L) (hq:∀ b,P b->Q b):Own Q L:=⟨fun s hs=>hq _ (h.1 s hs),h.2⟩
theorem at_ne {a b:Spot} (h:a.b≠b.b):a.at≠b.at:=fun e=>h (by simpa [Spot.at] using congrArg Addr.block e)
theorem Own.app {P Q R:Nat->Prop} {L M:List Spot} (h:Own P L) (k:Own Q M) (hp:∀ b,P b->R b) (hq:∀ b,Q b->R b) (hd:∀ b,P b->Q b->False):Own R (L++M):=by
 refine⟨fun s hs=>?_,List.pairwise_append.2 ⟨h.2,k.2,fun a ha b hb=>at_ne fun e=>hd a.b (h.1 a ha) (by rw[e];exact k.1 b hb)⟩⟩
 rcases List.mem_append.1 hs with h1|h1
 ·exact hp _ (h.1 s h1)
 ·exact hq _ (k.1 s h1)
theorem Spot.ok_same {s:Spot} {w w':World} (h:s.ok w) (hb:w'.heap[s.b]?=w.heap[s.b]?):s.ok w':=by
 have e1:w'.cell? s.at=w.cell? s.at:=World.cell?_of_block (w:=w) (w':=w') (a:=s.at) hb
 have e2:w'.frozen? s.at=w.frozen? s.at:=by
  have:w'.heap[s.at.block]?=w.heap[s.at.block]?:=hb
  simp only[World.frozen?,this]
 unfold Spot.ok
 rw[e1,e2];exact h
theorem SpN.same {w w':World} {v:Value} {L:List Spot} (h:SpN w v L) (hb:∀ s,s∈L->w'.heap[s.b]?=w.heap[s.b]?):SpN w' v L:=by
 obtain⟨ao,cap,hv,hl,ha,hk⟩:=h
 exact⟨ao,cap,hv,hl,ha,fun s hs=>Spot.ok_same (hk s hs) (hb s hs)⟩
theorem SpN.no (w:World):SpN w (.slice none 0 0) []:=⟨none,0,rfl,by simp[maxLen],fun i h=>absurd h (Nat.not_lt_zero _),fun _ h=>(by cases h)⟩
theorem qiB {w:World} {M:Nat} {e:TypeId} {v:Value} {l:List ByteArray} (h:w.ownsRow M e 1 v l.length (l.map .string)) (hl:l.length<=20000):∃ L,SpN w v L/\L.length=l.length/\Own (fun b=>v.ownBlock=some b) L:=by
 rcases id h.2 with ⟨rfl,h0⟩|⟨g,cap,cur,rfl,aC,hg,aD,aE,aF,aA⟩
 ·exact⟨[],SpN.no w,by rw[h0];rfl,Own.nil _⟩
 ·refine⟨(List.range l.length).map (fun i=>(⟨g,0+i,true⟩:Spot)),⟨_,cap,by rw[List.length_map,List.length_range],by simp[maxLen];omega,fun i hi=>⟨g,0,rfl,by simp⟩,fun s hs=>?_⟩,by simp,fun s hs=>?_,?_⟩
  ·obtain⟨i,hi,rfl⟩:=List.mem_map.1 hs
   have aB:=List.mem_range.1 hi
   have:=h.cells (g:=g) rfl i (.string l[i]) (by simp[aB])
   rw[Addr.add_lit]at this
   exact⟨⟨l[i],this⟩,by simp[World.frozen?,Spot.at,hg]⟩
  ·obtain⟨i,hi,rfl⟩:=List.mem_map.1 hs
   rfl
  ·refine List.pairwise_map.2 (List.Pairwise.imp (fun {a b} hab e=>?_) List.pairwise_lt_range)
   have:0+a=0+b:=by simpa [Spot.at] using congrArg Addr.off e
   omega
end Go.Proofs.YtelogmjfekhmpaaGreatDoor
