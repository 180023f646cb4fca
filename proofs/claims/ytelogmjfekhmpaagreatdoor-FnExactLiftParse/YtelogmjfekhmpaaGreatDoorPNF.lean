import Derived.Test.YtelogmjfekhmpaaGreatDoorPNE
namespace Go.Proofs.YtelogmjfekhmpaaGreatDoor
set_option maxRecDepth 100000
set_option maxHeartbeats 16000000
open Go.RowKit
def liftR (M:Nat) (text:ByteArray) (ws:List ByteArray):Except Er (T 25):=if text.size<=3000 then qgG M ws else .error (1,0)
theorem qjT {w w1:World} {A:Nat} {c0 c1 c2 c3 c4 x y:Value} (hb:Below A w w1) :
  Below A w (((put5 w1 A 0 c0 c1 c2 c3 c4).setCell ⟨A+1,0,none⟩ x).setCell ⟨A+1,1,none⟩ y)/\(((put5 w1 A 0 c0 c1 c2 c3 c4).setCell ⟨A+1,0,none⟩ x).setCell ⟨A+1,1,none⟩ y).heap.size=w1.heap.size /\
  ∀ b,A+2<=b->(((put5 w1 A 0 c0 c1 c2 c3 c4).setCell ⟨A+1,0,none⟩ x).setCell ⟨A+1,1,none⟩ y).heap[b]?=w1.heap[b]?:=by
 refine⟨((qaZ hb (Nat.le_refl _)).setCell (by show A<=A+1;omega) _).setCell (by show A<=A+1;omega) _,?_,fun b hb=>?_⟩
 ·rw[show ∀ (V:World) (p:Addr) (v:Value),(V.setCell p v).heap.size=V.heap.size from fun V p v=>by simp,show ∀ (V:World) (p:Addr) (v:Value),(V.setCell p v).heap.size=V.heap.size from fun V p v=>by simp,qbQ]
 ·rw[Below.heap_setCell _ _ _ _ (by show b≠A+1;omega),Below.heap_setCell _ _ _ _ (by show b≠A+1;omega),qaS (by omega)]
theorem qrA {M B:Nat} (hM:3000<=M) {text:ByteArray} {ws:List ByteArray} (hsz:text.size<=1048576) (hN:text.size<=3000->qvP text ws) (w:World) (hL:LaidU B w) (hB:B<=w.heap.size) :
  Calls Tryz.prog 5 #[.string text] w (qfN (liftR M text ws) w):=by
 obtain⟨W,hW⟩:∃ W,W=(w.alloc zeroN).alloc (.cells #[.int .i64 0,.int .i64 0] 27):=⟨_,rfl⟩
 have hs:W.heap.size=w.heap.size+2:=by rw[hW];simp
 have aE:Below w.heap.size w W:=by rw[hW];exact ((Below.refl _ _).alloc (Nat.le_refl _) _).alloc (by simp) _
 have hA:W.heap[w.heap.size]?=some (.cells #[.int .i64 0,.int .i64 0,.string ⟨#[]⟩,.slice none 0 0,.slice none 0 0] 25 (0,0)):=by rw[hW];exact (Below.heap_alloc _ _ _ (by simp)).trans (heap_alloc_new w zeroN)
 have hF:W.heap[w.heap.size+1]?=some (.cells #[.int .i64 0,.int .i64 0] 27 (0,0)):=by
  have:=heap_alloc_new (w.alloc zeroN) (.cells #[.int .i64 0,.int .i64 0] 27)
  rw[show (w.alloc zeroN).heap.size=w.heap.size+1 by simp]at this
  rw[hW];exact this
 by_cases h3:text.size<=3000
 case neg=>
  have aJ:(3000:Int)<(text.size:Int):=by omega
  have HP:Hid (qfN (liftR M text ws) w (.returned (.tuple #[.agg #[.int .i64 0,.int .i64 0,.string ⟨#[]⟩,.slice none 0 0,.slice none 0 0],.agg #[.int .i64 1,.int .i64 0]])) ((w.alloc zeroN).alloc (.cells #[.int .i64 1,.int .i64 0] 27))):=⟨((Below.refl _ _).alloc (Nat.le_refl _) _).alloc (by simp) _,.inr ⟨1,0,by unfold liftR;rw[if_neg h3],rfl⟩⟩
  clear hN hL h3 hA hF aE hs hW
  go_enter Tryz.func5,Tryz.ntmps5
  go_wp2_with fail
  refine bodyPost_ret (v:=.tuple #[.agg #[.int .i64 0,.int .i64 0,.string ⟨#[]⟩,.slice none 0 0,.slice none 0 0],.agg #[.int .i64 1,.int .i64 0]]) (by simp[results,Tryz.results5,go_sem]) rfl ?_
  exact HP.out
 have aJ:¬ (3000:Int)<(text.size:Int):=by omega
 have HC:=Lib.hid (qoC hM (hN h3) W (hL.step (aE.mono hB)) (by omega))
 have aF:Hid (liftR M text ws=qgG M ws):=by show _=_;unfold liftR;rw[if_pos h3]
 have aG:=Lib.hid aE
 have HA:=Lib.hid hA
 have HF:=Lib.hid hF
 clear hN hL hB aE hA hF h3
 go_enter Tryz.func5,Tryz.ntmps5
 go_wp2_with fail
 rw[<- hW]
 clear hW
 refine HC.out.mono ?_
 rintro e w1 ⟨aB,aC⟩
 have aK:=aB.size
 have aH:Below w.heap.size w w1:=aG.out.trans (aB.mono aG.out.size)
 obtain⟨⟨z0,z1,z2,z3,z4⟩,zf⟩:=qaC ((aB.block w.heap.size (by omega)).trans HA.out)
 obtain⟨⟨f0,f1⟩,g0,g1⟩:=qbZ ((aB.block (w.heap.size+1) (by omega)).trans HF.out)
 have zf0:=zf 0
 have zf1:=zf 1
 have zf2:=zf 2
 have zf3:=zf 3
 have zf4:=zf 4
 rcases aC with ⟨t,c0,c1,c2,c3,c4,aA,rfl,aI,aD⟩|⟨code,at',aA,rfl⟩
 ·obtain⟨x0,x1,x2,xa,xl,xc,ya,yl,yc,rfl,rfl,rfl,rfl,rfl⟩:=aI.shape
  have HP:Hid (qfN (liftR M text ws) w (.returned (.tuple #[.agg #[.int .i64 x0,.int .i64 x1,.string x2,.slice xa xl xc,.slice ya yl yc],.agg #[.int .i64 0,.int .i64 0]])) (((put5 w1 w.heap.size 0 (.int .i64 x0) (.int .i64 x1) (.string x2) (.slice xa xl xc) (.slice ya yl yc)).setCell ⟨w.heap.size+1,0,none⟩ (.int .i64 0)).setCell ⟨w.heap.size+1,1,none⟩ (.int .i64 0))):=by
   obtain⟨k1,k2,k3⟩:=qjT (c0:=.int .i64 x0) (c1:=.int .i64 x1) (c2:=.string x2) (c3:=.slice xa xl xc) (c4:=.slice ya yl yc) (x:=.int .i64 0) (y:=.int .i64 0) aH
   exact⟨k1,.inl ⟨t,_,_,_,_,_,by rw[aF.out];exact aA,rfl,aI.keep (fun b hb=>k3 b (by omega)) (fun b hb=>⟨by omega,by rw[k2];exact hb.2⟩),aD.keep (fun b hb=>k3 b (by omega)) (fun b hb=>⟨by omega,by rw[k2];exact hb.2⟩)⟩⟩
  clear HC aI aD aA aB aH aG HA HF zf aF
  go_wp2_with fail
  refine bodyPost_ret (v:=.tuple #[.agg #[.int .i64 x0,.int .i64 x1,.string x2,.slice xa xl xc,.slice ya yl yc],.agg #[.int .i64 0,.int .i64 0]]) (by simp[results,Tryz.results5,go_sem,z0,z1,z2,z3,z4,f0,f1]) rfl ?_
  exact HP.out
 ·have HP:Hid (qfN (liftR M text ws) w (.returned (.tuple #[.agg #[.int .i64 0,.int .i64 0,.string ⟨#[]⟩,.slice none 0 0,.slice none 0 0],.agg #[.int .i64 code,.int .i64 (at':Int)]])) (((put5 w1 w.heap.size 0 (.int .i64 0) (.int .i64 0) (.string ⟨#[]⟩) (.slice none 0 0) (.slice none 0 0)).setCell ⟨w.heap.size+1,0,none⟩ (.int .i64 code)).setCell ⟨w.heap.size+1,1,none⟩ (.int .i64 (at':Int)))):=by
   obtain⟨k1,k2,k3⟩:=qjT (c0:=.int .i64 0) (c1:=.int .i64 0) (c2:=.string ⟨#[]⟩) (c3:=.slice none 0 0) (c4:=.slice none 0 0) (x:=.int .i64 code) (y:=.int .i64 (at':Int)) aH
   exact⟨k1,.inr ⟨code,at',by rw[aF.out];exact aA,rfl⟩⟩
  clear HC aA aB aH aG HA HF zf aF
  go_wp2_with fail
  refine bodyPost_ret (v:=.tuple #[.agg #[.int .i64 0,.int .i64 0,.string ⟨#[]⟩,.slice none 0 0,.slice none 0 0],.agg #[.int .i64 code,.int .i64 (at':Int)]]) (by simp[results,Tryz.results5,go_sem,z0,z1,z2,z3,z4,f0,f1]) rfl ?_
  exact HP.out
end Go.Proofs.YtelogmjfekhmpaaGreatDoor
