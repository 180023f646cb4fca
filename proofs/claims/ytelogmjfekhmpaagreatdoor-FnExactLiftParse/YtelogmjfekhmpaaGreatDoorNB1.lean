import Derived.Test.YtelogmjfekhmpaaGreatDoorNB0
namespace Go.Proofs.YtelogmjfekhmpaaGreatDoor
set_option maxRecDepth 100000
set_option maxHeartbeats 16000000
open Go.RowKit
theorem qpO (w:World):Calls Tryz.prog 49 #[] w fun e w'=>∃ b,e=.returned (.pointer (some ⟨b,0,none⟩))/\w.heap.size<=b/\b<w'.heap.size/\Book w' b/\Below w.heap.size w w':=by
 have aC:opC.size=176:=by kernel_rfl
 have hf:Array.foldl (fun cs (x:Value × Nat)=>cs.setIfInBounds x.snd x.fst) Tryz.zeroCells102 opC.zipIdx 0 176=opC:=by kernel_rfl
 go_enter Tryz.func49,Tryz.ntmps49
 go_wp2_with fail
 refine (qpN w).mono ?_
 rintro e w1 ⟨rfl,aA⟩
 have aB:=aA.alloc aA.size (.cells opC 102)
 have HB:Hid (∃ b,Ending.returned (.pointer (some ⟨w1.heap.size,0,none⟩))=.returned (.pointer (some ⟨b,0,none⟩))/\w.heap.size<=b/\b<(w1.alloc (.cells opC 102)).heap.size/\Book (w1.alloc (.cells opC 102)) b/\Below w.heap.size w (w1.alloc (.cells opC 102))):=
  ⟨w1.heap.size,rfl,aA.size,by simp,Book.of (heap_alloc_last w1 _),aB⟩
 clear aA aB
 go_wp2_with fail
 go_ret
 exact HB.out
end Go.Proofs.YtelogmjfekhmpaaGreatDoor
