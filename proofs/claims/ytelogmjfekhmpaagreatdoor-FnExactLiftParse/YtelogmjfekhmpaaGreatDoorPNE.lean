import Derived.Test.YtelogmjfekhmpaaGreatDoorPND
namespace Go.Proofs.YtelogmjfekhmpaaGreatDoor
set_option maxRecDepth 100000
set_option maxHeartbeats 16000000
open Go.RowKit
def qvP (text:ByteArray) (ws:List ByteArray):Prop:=∀ W:World,Calls Tryz.prog 34 #[.string text] W fun e w'=>∃ R bk wv,e=.returned (.pointer (some ⟨R,0,none⟩))/\W.heap.size<=R/\Below W.heap.size W w' /\ Rdr w' R bk wv ws 0 0
def qfN (r:Except Er (T 25)) (w:World) (e:Ending) (w':World):Prop:=
 Below w.heap.size w w' /\ ((∃ (t:T 25) (c0 c1 c2 c3 c4:Value),r=.ok t/\e=.returned (.tuple #[.agg #[c0,c1,c2,c3,c4],.agg #[.int .i64 0,.int .i64 0]])/\NodeIn (fun b=>w.heap.size<=b/\b<w'.heap.size) w' 25 t c0 c1 c2 c3 c4/\OwnN (fun b=>w.heap.size<=b/\b<w'.heap.size) w' 25 t c3 c4) ∨
  (∃ (code:Int) (at':Nat),r=.error (code,at')/\e=.returned (.tuple #[.agg #[.int .i64 0,.int .i64 0,.string ⟨#[]⟩,.slice none 0 0,.slice none 0 0],.agg #[.int .i64 code,.int .i64 (at':Int)]])))
theorem qbZ {w:World} {N:Nat} {x y:Value} (h:w.heap[N]?=some (.cells #[x,y] 27 (0,0))) :
  (w.cell? ⟨N,0,none⟩=some x/\w.cell? ⟨N,1,none⟩=some y)/\w.frozen? ⟨N,0,none⟩=false/\w.frozen? ⟨N,1,none⟩=false:=by
 refine⟨⟨?_,?_⟩,?_,?_⟩ <;> simp[World.cell?,World.frozen?,h]
theorem qqZ {w2 W:World} {A F:Nat} {code:Int} {at':Nat} {o:Obj} (hAF:A≠F) (hA:w2.heap[A]?=some (.cells #[.int .i64 0,.int .i64 0,.string ⟨#[]⟩,.slice none 0 0,.slice none 0 0] 25 (0,0))) (hF:w2.heap[F]?=some (.cells #[.int .i64 0,.int .i64 0] 27 (0,0)))
  (hW:W=((w2.setCell ⟨F,0,none⟩ (.int .i64 code)).setCell ⟨F,1,none⟩ (.int .i64 (at':Int))).alloc o) :
  (W.cell? ⟨A,0,none⟩=some (.int .i64 0)/\W.cell? ⟨A,1,none⟩=some (.int .i64 0)/\W.cell? ⟨A,2,none⟩=some (.string ⟨#[]⟩)/\W.cell? ⟨A,3,none⟩=some (.slice none 0 0)/\W.cell? ⟨A,4,none⟩=some (.slice none 0 0))/\W.cell? ⟨F,0,none⟩=some (.int .i64 code)/\W.cell? ⟨F,1,none⟩=some (.int .i64 (at':Int)):=by
 have lA:=(Array.getElem?_eq_some_iff.1 hA).1
 have lF:=(Array.getElem?_eq_some_iff.1 hF).1
 have bA:W.heap[A]?=some (.cells #[.int .i64 0,.int .i64 0,.string ⟨#[]⟩,.slice none 0 0,.slice none 0 0] 25 (0,0)):=by
  rw[hW,Below.heap_alloc _ _ _ (by simp;omega),Below.heap_setCell _ _ _ _ hAF,Below.heap_setCell _ _ _ _ hAF]
  exact hA
 have bF:W.heap[F]?=some (.cells #[.int .i64 code,.int .i64 (at':Int)] 27 (0,0)):=by
  rw[hW,Below.heap_alloc _ _ _ (by simp;omega)]
  simp[World.setCell,Array.getElem?_modify,hF]
 exact⟨(qaC bA).1,(qbZ bF).1⟩
theorem qoC {M B:Nat} (hM:3000<=M) {text:ByteArray} {ws:List ByteArray} (hN:qvP text ws) (w:World) (hL:LaidU B w) (hB:B<=w.heap.size) :
  Calls Tryz.prog 14 #[.string text] w (qfN (qgG M ws) w):=by
 obtain⟨W,hW⟩:∃ W,W=(w.alloc zeroN).alloc (.cells #[.int .i64 0,.int .i64 0] 27):=⟨_,rfl⟩
 have hs:W.heap.size=w.heap.size+2:=by rw[hW];simp
 have aG:Below w.heap.size w W:=by rw[hW];exact ((Below.refl _ _).alloc (Nat.le_refl _) _).alloc (by simp) _
 have hA:W.heap[w.heap.size]?=some (.cells #[.int .i64 0,.int .i64 0,.string ⟨#[]⟩,.slice none 0 0,.slice none 0 0] 25 (0,0)):=by rw[hW];exact (Below.heap_alloc _ _ _ (by simp)).trans (heap_alloc_new w zeroN)
 have hF:W.heap[w.heap.size+1]?=some (.cells #[.int .i64 0,.int .i64 0] 27 (0,0)):=by
  have:=heap_alloc_new (w.alloc zeroN) (.cells #[.int .i64 0,.int .i64 0] 27)
  rw[show (w.alloc zeroN).heap.size=w.heap.size+1 by simp]at this
  rw[hW];exact this
 have aH:=Lib.hid (hN W)
 have aM:Hid (∀ (w1:World) (R bk:Nat) (wv:Value),W.heap.size<=R->Below W.heap.size W w1->Rdr w1 R bk wv ws 0 0->Calls Tryz.prog 35 #[.pointer (some ⟨R,0,none⟩)] w1 (qhD M R ws w1)):=fun w1 R bk wv h1 h2 h3=>by
  have hb:Below w.heap.size w w1:=aG.trans (h2.mono aG.size)
  refine qzZ hM (B:=B) ?_ (by have:=aG.size;omega) h3
  exact hL.step (hb.mono hB)
 have aE:=Lib.hid aG
 have HA:=Lib.hid hA
 have HF:=Lib.hid hF
 clear hN hL hB aG hA hF
 go_enter_defers Tryz.func14,Tryz.ntmps14
 go_wp2_with fail
 rw[<- hW]
 clear hW
 refine aH.out.mono ?_
 rintro e w1 ⟨R,bk,wv,rfl,hR,aK,aO⟩
 have HC:=Lib.hid (aM.out w1 R bk wv hR aK aO)
 have aB:=Lib.hid aK
 clear aH aM aK aO
 go_wp2_with fail
 refine HC.out.mono ?_
 rintro e w2 ⟨aC,⟨t,c0,c1,c2,c3,c4,aA,rfl,aL,aI⟩|⟨code,at',aA,rfl⟩⟩
 ·have aP:=aB.out.size
  have aQ:=aC.size
  obtain⟨x0,x1,x2,xa,xl,xc,ya,yl,yc,rfl,rfl,rfl,rfl,rfl⟩:=aL.shape
  have aF:=(aC.block w.heap.size (by omega) (by omega)).trans ((aB.out.block w.heap.size (by omega)).trans HA.out)
  have aD:=(aC.block (w.heap.size+1) (by omega) (by omega)).trans ((aB.out.block (w.heap.size+1) (by omega)).trans HF.out)
  obtain⟨⟨z0,z1,z2,z3,z4⟩,zf⟩:=qaC aF
  obtain⟨⟨f0,f1⟩,g0,g1⟩:=qbZ aD
  have zf0:=zf 0
  have zf1:=zf 1
  have zf2:=zf 2
  have zf3:=zf 3
  have zf4:=zf 4
  have HP:Hid (qfN (qgG M ws) w (.returned (.tuple #[.agg #[.int .i64 x0,.int .i64 x1,.string x2,.slice xa xl xc,.slice ya yl yc],.agg #[.int .i64 0,.int .i64 0]])) (((put5 w2 w.heap.size 0 (.int .i64 x0) (.int .i64 x1) (.string x2) (.slice xa xl xc) (.slice ya yl yc)).setCell ⟨w.heap.size+1,0,none⟩ (.int .i64 0)).setCell ⟨w.heap.size+1,1,none⟩ (.int .i64 0))):=by
   have aJ:Below w.heap.size w w2:=aE.out.trans ((aB.out.trans (aC.below hR (by omega))).mono aE.out.size)
   have aR:Below w.heap.size w (((put5 w2 w.heap.size 0 (.int .i64 x0) (.int .i64 x1) (.string x2) (.slice xa xl xc) (.slice ya yl yc)).setCell ⟨w.heap.size+1,0,none⟩ (.int .i64 0)).setCell ⟨w.heap.size+1,1,none⟩ (.int .i64 0)):=((qaZ aJ (Nat.le_refl _)).setCell (by show w.heap.size<=w.heap.size+1;omega) _).setCell (by show w.heap.size<=w.heap.size+1;omega) _
   have aN:(((put5 w2 w.heap.size 0 (.int .i64 x0) (.int .i64 x1) (.string x2) (.slice xa xl xc) (.slice ya yl yc)).setCell ⟨w.heap.size+1,0,none⟩ (.int .i64 0)).setCell ⟨w.heap.size+1,1,none⟩ (.int .i64 0)).heap.size=w2.heap.size:=by
    rw[show ∀ (V:World) (p:Addr) (v:Value),(V.setCell p v).heap.size=V.heap.size from fun V p v=>by simp,show ∀ (V:World) (p:Addr) (v:Value),(V.setCell p v).heap.size=V.heap.size from fun V p v=>by simp,qbQ]
   have q:∀ b,w1.heap.size<=b->(((put5 w2 w.heap.size 0 (.int .i64 x0) (.int .i64 x1) (.string x2) (.slice xa xl xc) (.slice ya yl yc)).setCell ⟨w.heap.size+1,0,none⟩ (.int .i64 0)).setCell ⟨w.heap.size+1,1,none⟩ (.int .i64 0)).heap[b]?=w2.heap[b]?:=fun b hb=>by
    rw[Below.heap_setCell _ _ _ _ (by show b≠w.heap.size+1;omega),Below.heap_setCell _ _ _ _ (by show b≠w.heap.size+1;omega),qaS (by omega)]
   exact⟨aR,.inl ⟨t,_,_,_,_,_,aA,rfl,aL.keep (fun b hb=>q b hb.1) (fun b hb=>⟨by omega,by rw[aN];exact hb.2⟩),aI.keep (fun b hb=>q b hb.1) (fun b hb=>⟨by omega,by rw[aN];exact hb.2⟩)⟩⟩
  clear HC aL aI aA aC aF aD aB aE HA HF zf
  go_wp2_with fail
  refine leaves_cons (f:=33) (args:=#[.pointer (some ⟨w.heap.size+1,0,none⟩)]) (by simp) (by simp[go_sem]) ?_
  refine (qoB _ _).mono ?_
  rintro e u' w'' ⟨rfl,rfl,rfl⟩
  exact⟨.tuple #[.agg #[.int .i64 x0,.int .i64 x1,.string x2,.slice xa xl xc,.slice ya yl yc],.agg #[.int .i64 0,.int .i64 0]],by simp[results,Tryz.results14,go_sem,z0,z1,z2,z3,z4,f0,f1],HP.out⟩
 ·have aP:=aB.out.size
  have aQ:=aC.size
  have aF:=(aC.block w.heap.size (by omega) (by omega)).trans ((aB.out.block w.heap.size (by omega)).trans HA.out)
  have aD:=(aC.block (w.heap.size+1) (by omega) (by omega)).trans ((aB.out.block (w.heap.size+1) (by omega)).trans HF.out)
  have aS:=Lib.hid (qoA (w.heap.size+1) code at' w2 aD)
  obtain⟨⟨z0,z1,z2,z3,z4⟩,-⟩:=qaC aF
  obtain⟨⟨f0,f1⟩,g0,g1⟩:=qbZ aD
  have HP:Hid (qfN (qgG M ws) w (.returned (.tuple #[.agg #[.int .i64 0,.int .i64 0,.string ⟨#[]⟩,.slice none 0 0,.slice none 0 0],.agg #[.int .i64 code,.int .i64 (at':Int)]])) (((w2.setCell ⟨w.heap.size+1,0,none⟩ (.int .i64 code)).setCell ⟨w.heap.size+1,1,none⟩ (.int .i64 (at':Int))).alloc (.cells #[.int .i64 code,.int .i64 (at':Int)] 61))):=by
   have aJ:Below w.heap.size w w2:=aE.out.trans ((aB.out.trans (aC.below hR (by omega))).mono aE.out.size)
   exact⟨((aJ.setCell (by show w.heap.size<=w.heap.size+1;omega) _).setCell (by show w.heap.size<=w.heap.size+1;omega) _).alloc (by show w.heap.size<=(((w2.setCell ⟨w.heap.size+1,0,none⟩ (.int .i64 code)).setCell ⟨w.heap.size+1,1,none⟩ (.int .i64 (at':Int)))).heap.size;simp;omega) _,.inr ⟨code,at',aA,rfl⟩⟩
  have aT:Hid (∀ Wf,Wf=((w2.setCell ⟨w.heap.size+1,0,none⟩ (.int .i64 code)).setCell ⟨w.heap.size+1,1,none⟩ (.int .i64 (at':Int))).alloc (.cells #[.int .i64 code,.int .i64 (at':Int)] 61)->_):=fun Wf hWf=>qqZ (show w.heap.size≠w.heap.size+1 by omega) aF aD hWf
  clear HC aC aA aF aD aB aE HA HF z0 z1 z2 z3 z4 f0 f1 g0 g1
  refine leaves_cons (f:=33) (args:=#[.pointer (some ⟨w.heap.size+1,0,none⟩)]) (by simp) (by simp[go_sem]) ?_
  refine aS.out.mono ?_
  rintro e u' w'' ⟨rfl,rfl,hw⟩
  rw[<- hw]at HP
  obtain⟨⟨z0,z1,z2,z3,z4⟩,f0,f1⟩:=aT.out w'' hw
  clear hw
  exact⟨.tuple #[.agg #[.int .i64 0,.int .i64 0,.string ⟨#[]⟩,.slice none 0 0,.slice none 0 0],.agg #[.int .i64 code,.int .i64 (at':Int)]],by simp[results,Tryz.results14,go_sem,z0,z1,z2,z3,z4,f0,f1],HP.out⟩
end Go.Proofs.YtelogmjfekhmpaaGreatDoor
