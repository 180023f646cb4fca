import Derived.Test.YtelogmjfekhmpaaGreatDoorRep
namespace Go.Proofs.YtelogmjfekhmpaaGreatDoor
open Go.RowKit
structure Box5 (w:World) (N:Nat) (a b c d e:Value):Prop where
 c0:w.cell? ⟨N,0,none⟩=some a
 c1:w.cell? ⟨N,1,none⟩=some b
 c2:w.cell? ⟨N,2,none⟩=some c
 c3:w.cell? ⟨N,3,none⟩=some d
 c4:w.cell? ⟨N,4,none⟩=some e
theorem Box5.keep {w w':World} {N:Nat} {a b c d e:Value} (h:Box5 w N a b c d e) (hb:Below w.heap.size w w'):Box5 w' N a b c d e:=by
 have hl:N<w.heap.size:=by
  have h:=h.c0
  exact Classical.byContradiction fun hge=>by
   have:w.heap[N]?=none:=Array.getElem?_eq_none (by omega)
   simp[World.cell?,this]at h
 exact⟨(hb.cell (p:=⟨N,0,none⟩) hl).trans h.c0,(hb.cell (p:=⟨N,1,none⟩) hl).trans h.c1,(hb.cell (p:=⟨N,2,none⟩) hl).trans h.c2,(hb.cell (p:=⟨N,3,none⟩) hl).trans h.c3,(hb.cell (p:=⟨N,4,none⟩) hl).trans h.c4⟩
theorem Box5.new (w:World) (a b c d e:Value) (t:TypeId):Box5 (w.alloc (.cells #[a,b,c,d,e] t)) w.heap.size a b c d e:=
 ⟨by simp[go_sem],by simp[go_sem],by simp[go_sem],by simp[go_sem],by simp[go_sem]⟩
theorem TreeIn.step {S:Nat->Prop} {w w':World} {n:Nat} {t:T n} {c0 c1 c2 c3 c4:Value} (h:TreeIn S w n t c0 c1 c2 c3 c4) (hS:∀ b,S b->b<w.heap.size) (hb:Below w.heap.size w w'):TreeIn S w' n t c0 c1 c2 c3 c4/\(∀ b,S b->b<w'.heap.size):=
 ⟨h.keep (qaB hb hS) (fun _ h=>h),fun b hb'=>Nat.lt_of_lt_of_le (hS b hb') hb.size⟩
end Go.Proofs.YtelogmjfekhmpaaGreatDoor
