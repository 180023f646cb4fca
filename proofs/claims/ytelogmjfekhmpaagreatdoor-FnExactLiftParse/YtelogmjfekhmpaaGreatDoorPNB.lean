import Derived.Test.YtelogmjfekhmpaaGreatDoorPNA
namespace Go.Proofs.YtelogmjfekhmpaaGreatDoor
set_option maxRecDepth 100000
set_option maxHeartbeats 16000000
open Go.RowKit
theorem qzY {M:Nat}:qhC M 0:=by
 intro B R bk wv ws a c act d w hL hB hR hd aI hc
 have aF:=hR.lt
 have aB:=hR.same ((Below.refl w.heap.size w).alloc (Nat.le_refl _) zeroN)
 obtain⟨⟨-,-,-,ra3⟩,-,raf3⟩:=aB.cells
 obtain⟨W1,aA⟩:∃ W1,W1=(w.setCell ⟨R,3,none⟩ (.int .i64 ((c:Int)+1))).alloc zeroN:=⟨_,rfl⟩
 have aC:Rdr W1 R bk wv ws a (c+1):=by rw[aA];exact (hR.setNo (c+1)).same ((Below.refl _ _).alloc (Nat.le_refl _) zeroN)
 have aD:Near R w W1:=by rw[aA];exact (Near.set R 3 w _).trans (Near.alloc R _ zeroN)
 have aG:IntKind.i64.wrap ((c:Int)+1)=(c:Int)+1:=by rw[IntKind.wrap_i64];omega
 have aH:decide (d<=24)=false:=decide_eq_false (by omega)
 have aE:¬ d<=24:=by omega
 have HD:=Lib.hid (qcG aC 3)
 have HP:Hid (qnF 0 R bk wv ws a w (qaI M ws 0 act d a c) (.panicked (qbV 3 a)) W1):=⟨aD,.inr ⟨3,a,rfl,rfl⟩⟩
 clear hL hB hR aB aC aD
 go_enter Tryz.func51,Tryz.ntmps51
 go_wp2_with fail
 rw[<- aA]
 refine HD.out.mono ?_
 rintro e w2 ⟨rfl,rfl⟩
 exact⟨rfl,HP.out⟩
theorem xfC {M:Nat} (hM:3000<=M):∀ m,qhC M m:=by
 intro m
 induction m with
 | zero=>exact qzY
 | succ m ih=>exact qzX hM ih
end Go.Proofs.YtelogmjfekhmpaaGreatDoor
