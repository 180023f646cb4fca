import Derived.Test.YtelogmjfekhmpaaGreatDoorMark0
namespace Go.Proofs.YtelogmjfekhmpaaGreatDoor
open Go.RowKit
theorem qnP {b:Nat}:∀ (L:List Spot) (w:World) (k:Int),(∀ s,s∈L->s.b≠b)->(qbF w L k).heap[b]?=w.heap[b]?:=by
 intro L
 induction L with
 | nil=>intro w k _;rfl
 | cons s r ih=>
  intro w k h
  rw[qbF,ih _ _ (fun x hx=>h x (List.mem_cons_of_mem _ hx))]
  exact Below.heap_setCell _ _ _ _ (fun e=>h s (List.mem_cons_self ..) e.symm)
theorem Wrote.other {L:List Spot} {k:Int} {w w':World} (h:Wrote L k w w') {b:Nat} (hb:b<w.heap.size) (hL:∀ s,s∈L->s.b≠b):w'.heap[b]?=w.heap[b]?:=(h.block b hb).trans (qnP L w k hL)
theorem Wrote.below_of {L:List Spot} {k:Int} {M:Nat} {a w w':World} (h:Below M a w) (hM:M<=w.heap.size) (hw:Wrote L k w w') (hL:∀ s,s∈L->M<=s.b):Below M a w':=
 ⟨hw.os.trans h.os,hw.tape.trans h.tape,hw.output.trans h.output,Nat.le_trans h.size hw.size,fun b hb=>(hw.other (by omega) (fun s hs=>by have:=hL s hs;omega)).trans (h.block b hb)⟩
theorem Wrote.holds {L:List Spot} {k:Int} {w w':World} (h:Wrote L k w w') (hok:∀ s,s∈L->s.ok w) (hp:L.Pairwise (fun a b=>a.at≠b.at)):Holds w' L k:=
 (qnN L w k hok hp).keep (fun s hs=>World.cell?_of_block (w:=qbF w L k) (w':=w') (a:=s.at) (h.block s.b (Spot.ok_lt (hok s hs))))
end Go.Proofs.YtelogmjfekhmpaaGreatDoor
