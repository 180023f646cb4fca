import Derived.Test.YtelogmjfekhmpaaGreatDoorPNC
namespace Go.Proofs.YtelogmjfekhmpaaGreatDoor
set_option maxRecDepth 100000
set_option maxHeartbeats 16000000
open Go.RowKit
theorem Tryz.assertN_yes (x y:Int) (w:World):(Instr.typeAssert (.iface 61 (.agg #[.int .i64 x,.int .i64 y])) 20 61 true).run Tryz.prog w=.ok (.tuple #[.agg #[.int .i64 x,.int .i64 y],.bool true]) w:=by kernel_rfl
theorem qoA (F:Nat) (code:Int) (a:Nat) (w:World) (h0:w.heap[F]?=some (.cells #[.int .i64 0,.int .i64 0] 27 (0,0))) :
  CallsD Tryz.prog 33 #[.pointer (some ⟨F,0,none⟩)] (.panicking (qbV code a)) w fun e u' w'=>
   e=.returned (.tuple #[])/\u'=.panicking [{ v:=.iface 61 (.agg #[.int .i64 code,.int .i64 (a:Int)]),recovered:=true }]/\w'=((w.setCell ⟨F,0,none⟩ (.int .i64 code)).setCell ⟨F,1,none⟩ (.int .i64 (a:Int))).alloc (.cells #[.int .i64 code,.int .i64 (a:Int)] 61):=by
 have aB:=Tryz.assertN_yes
 have hF:F<w.heap.size:=(Array.getElem?_eq_some_iff.1 h0).1
 have f0:w.cell? ⟨F,0,none⟩=some (.int .i64 0):=by simp[World.cell?,h0]
 have f1:w.cell? ⟨F,1,none⟩=some (.int .i64 0):=by simp[World.cell?,h0]
 have g0:w.frozen? ⟨F,0,none⟩=false:=by simp[World.frozen?,h0]
 have g1:w.frozen? ⟨F,1,none⟩=false:=by simp[World.frozen?,h0]
 have aC:¬ w.heap.size=F:=by omega
 have aA:¬ F=w.heap.size:=by omega
 clear h0
 unfold qbV
 refine callsD_of_wpS Tryz.func33 rfl fun c₀ cs hu=>?_
 apply wpS_seq
 apply wpS_region
 simp[wpOpsS,go_sem,recoverD,hu,Tryz.ntmps33,Exit.thenS]
 refine wpS_of_wp ?_
 go_wp2_with fail
 exact⟨rfl,_,rfl,.tuple #[],by simp[results,Tryz.results33],rfl,rfl,rfl⟩
theorem qoB (F:Nat) (w:World) :
  CallsD Tryz.prog 33 #[.pointer (some ⟨F,0,none⟩)] .returning w fun e u' w'=>e=.returned (.tuple #[])/\u'=.returning/\w'=w:=by
 refine callsD_of_wpS Tryz.func33 rfl fun c₀ cs hu=>?_
 apply wpS_seq
 apply wpS_region
 simp[wpOpsS,go_sem,recoverD,hu,Tryz.ntmps33,Exit.thenS]
 refine wpS_of_wp ?_
 go_wp2_with fail
 exact⟨rfl,_,by rw[<- hu],.tuple #[],by simp[results,Tryz.results33],rfl,rfl,rfl⟩
end Go.Proofs.YtelogmjfekhmpaaGreatDoor
