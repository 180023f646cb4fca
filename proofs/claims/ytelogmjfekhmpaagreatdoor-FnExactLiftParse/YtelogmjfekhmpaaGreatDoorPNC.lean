import Derived.Test.YtelogmjfekhmpaaGreatDoorPNB
import Derived.Test.YtelogmjfekhmpaaGreatDoorNW3
import Derived.Deep.RegionHeld
namespace Go.Proofs.YtelogmjfekhmpaaGreatDoor
set_option maxRecDepth 100000
set_option maxHeartbeats 16000000
open Go.RowKit
def qgG (M:Nat) (ws:List ByteArray):Except Er (T 25):=
 match qaI M ws 25 true 1 0 0 with
 | .error e=>.error e
 | .ok r=>if r.2.1=ws.length then (if lenN 25 r.1<=3000 then .ok r.1 else .error (1,0)) else .error (2,r.2.1)
def qhD (M R:Nat) (ws:List ByteArray) (w:World) (e:Ending) (w':World):Prop:=
 Near R w w' /\ ((∃ (t:T 25) (c0 c1 c2 c3 c4:Value),qgG M ws=.ok t/\e=.returned (.agg #[c0,c1,c2,c3,c4])/\NodeIn (fun b=>w.heap.size<=b/\b<w'.heap.size) w' 25 t c0 c1 c2 c3 c4/\OwnN (fun b=>w.heap.size<=b/\b<w'.heap.size) w' 25 t c3 c4) ∨
  (∃ code at',qgG M ws=.error (code,at')/\e=.panicked (qbV code at')))
theorem qqY {B:Nat} {w:World} (h:LaidU B w) (hB:B<=w.heap.size):TensIn w:=fun w2 h2=>h.1 w2 (h2.mono hB)
theorem qzZ {M B R bk:Nat} (hM:3000<=M) {wv:Value} {ws:List ByteArray} {w:World} (hL:LaidU B w) (hB:B<=R) (hR:Rdr w R bk wv ws 0 0) :
  Calls Tryz.prog 35 #[.pointer (some ⟨R,0,none⟩)] w (qhD M R ws w):=by
 have bJ:=hR.lt
 have bT:=hR.few
 obtain⟨wa,wc,rfl,-,-⟩:=id hR.words
 obtain⟨W0,aS⟩:∃ W0,W0=w.alloc zeroN:=⟨_,rfl⟩
 have aT:Below w.heap.size w W0:=by rw[aS];exact (Below.refl _ _).alloc (Nat.le_refl _) _
 have bK:W0.heap.size=w.heap.size+1:=by rw[aS];simp
 have bL:W0.heap[w.heap.size]?=some (.cells #[.int .i64 0,.int .i64 0,.string ⟨#[]⟩,.slice none 0 0,.slice none 0 0] 25 (0,0)):=by rw[aS];exact heap_alloc_new w zeroN
 have bM:LaidU B W0:=hL.near (Near.of_below aT) hB bJ
 have HN:=Lib.hid (xfC hM 25 B R bk _ ws 0 0 true 1 W0 bM hB (hR.same aT) (by omega) (by rfl) (by omega))
 have aL:Hid (qgG M ws=match qaI M ws 25 true 1 0 0 with|.error e=>.error e|.ok r=>if r.2.1=ws.length then (if lenN 25 r.1<=3000 then .ok r.1 else .error (1,0)) else .error (2,r.2.1)):=rfl
 have aB:=Lib.hid (qbU M ws 25 true 1 0 0)
 generalize qaI M ws 25 true 1 0 0=res at *
 have HR:=Lib.hid hR
 have HL:=Lib.hid hL
 have aU:=hidF hB
 have aV:Hid (Near R w W0):=Near.of_below aT
 have bB:=Lib.hid bL
 have aM:=hidF bK
 clear hL hB hR aT bM bL bK
 simp only[actI]at HN
 go_enter Tryz.func35,Tryz.ntmps35
 go_wp2_with fail
 rw[<- aS]
 clear aS
 refine HN.out.mono ?_
 rintro e w1 ⟨aP,⟨t,a,c,c0,c1,c2,c3,c4,aA,rfl,aZ,aJ,bH,-⟩|⟨code,at',aA,rfl⟩⟩
 case inr=>exact⟨rfl,aV.out.trans aP,.inr ⟨code,at',by rw[aL.out,aA],rfl⟩⟩
 obtain⟨g1,-,g3,g4,-,-⟩:=aB.out _ aA
 dsimp only at g1 g3 g4
 obtain⟨x0,x1,x2,xa,xl,xc,ya,yl,yc,rfl,rfl,rfl,rfl,rfl⟩:=aZ.shape
 obtain⟨W2,aK⟩:∃ W2,W2=w1.alloc (.cells #[.int .i64 x0,.int .i64 x1,.string x2,.slice xa xl xc,.slice ya yl yc] 25):=⟨_,rfl⟩
 have aG:Below w1.heap.size w1 W2:=by rw[aK];exact (Below.refl _ _).alloc (Nat.le_refl _) _
 have aW:=bH.same aG
 have bN:w.heap.size<w1.heap.size:=by have:=aP.size;have:=aM.out;omega
 have bC:Near R w W2:=aV.out.trans (aP.trans (Near.of_below aG))
 have bD:W2.heap[w.heap.size]?=some (.cells #[.int .i64 0,.int .i64 0,.string ⟨#[]⟩,.slice none 0 0,.slice none 0 0] 25 (0,0)):=(aG.block w.heap.size bN).trans ((aP.block w.heap.size (by rw[aM.out];omega) (by omega)).trans bB.out)
 have aH:W2.heap[w1.heap.size]?=some (.cells #[.int .i64 x0,.int .i64 x1,.string x2,.slice xa xl xc,.slice ya yl yc] 25 (0,0)):=by rw[aK];exact heap_alloc_new w1 _
 have aF:NodeIn (fun b=>w.heap.size+1<=b/\b<w1.heap.size) W2 25 t (.int .i64 x0) (.int .i64 x1) (.string x2) (.slice xa xl xc) (.slice ya yl yc):=aZ.keep (fun b hb=>aG.block b hb.2) (fun b hb=>⟨by have:=aM.out;omega,hb.2⟩)
 have aC:OwnN (fun b=>w.heap.size+1<=b/\b<w1.heap.size) W2 25 t (.slice xa xl xc) (.slice ya yl yc):=aJ.keep (fun b hb=>aG.block b hb.2) (fun b hb=>⟨by have:=aM.out;omega,hb.2⟩)
 have bO:W2.heap.size=w1.heap.size+1:=by rw[aK];simp
 obtain⟨⟨r0,r1,r2,-⟩,-⟩:=aW.cells
 have aN:=Lib.hid aW
 have aO:=Lib.hid bC
 have aD:=Lib.hid aA
 by_cases ha:a=ws.length
 case neg=>
  have bU:((a:Int)==(ws.length:Int))=false:=by simp;omega
  have bE:¬ (a:Int)=(ws.length:Int):=by omega
  have HD:Hid (Calls Tryz.prog 52 _ W2.drew _):=qcG (aN.out.drewN 1) 2
  have HP:Hid (qhD M R ws w (.panicked (qbV 2 a)) W2.drew):=⟨qaK aO.out 1,.inr ⟨2,a,by rw[aL.out,aD.out];exact if_neg ha,rfl⟩⟩
  generalize ws.length=wl at *
  clear HN aB HR HL aU aV bB aM aZ aJ bH aG aW bC bD aH aF aC bO aA aD aL ha aP g1 g3 g4 aN aO bN
  go_wp2_with fail
  rw[<- aK]
  clear aK
  go_region_dies
  all_goals (go_at_call 52;refine HD.out.mono ?_;rintro e w' ⟨rfl,rfl⟩;exact⟨rfl,HP.out⟩)
 have bU:((a:Int)==(ws.length:Int))=true:=by simp;omega
 have bE:(a:Int)=(ws.length:Int):=by omega
 have bP:Hid (∀ j,Calls Tryz.prog 53 #[.pointer (some ⟨bk,0,none⟩),.agg #[.int .i64 x0,.int .i64 x1,.string x2,.slice xa xl xc,.slice ya yl yc]] (W2.drewN j) fun e w'=>Below W2.heap.size W2 w' /\ ∃ s,e=.returned (.string s)/\s.size=lenN 25 t):=fun j=>by
  have bQ:Below W2.heap.size W2 (W2.drewN j):=⟨rfl,rfl,rfl,Nat.le_refl _,fun _ _=>rfl⟩
  refine (qzM 25 bk (fun b=>w.heap.size+1<=b/\b<w1.heap.size) (W2.drewN j) t _ _ _ _ _ 1 (aF.keep (fun _ _=>rfl) (fun _ h=>h)) (fun b hb=>by show b<W2.heap.size;omega) (aN.out.drewN j).book g1 (by omega) (qqY (HL.out.near (aO.out.trans (Near.of_below bQ)) aU.out bJ) (by have:=aU.out;have:=aN.out.lt;show B<=W2.heap.size;omega))).mono ?_
  rintro e w' ⟨hb,s,rfl,hs⟩
  exact⟨bQ.trans hb,s,rfl,hs⟩
 have aI:Hid (∀ W,Below W2.heap.size W2 W->lenN 25 t<=3000->qhD M R ws w (.returned (.agg #[.int .i64 x0,.int .i64 x1,.string x2,.slice xa xl xc,.slice ya yl yc])) (put5 W w.heap.size 0 (.int .i64 x0) (.int .i64 x1) (.string x2) (.slice xa xl xc) (.slice ya yl yc))):=fun W hb h3=>by
  have q:∀ b,b≠w.heap.size->(put5 W w.heap.size 0 (.int .i64 x0) (.int .i64 x1) (.string x2) (.slice xa xl xc) (.slice ya yl yc)).heap[b]?=W.heap[b]?:=fun b hb=>qaS hb
  have hz:(put5 W w.heap.size 0 (.int .i64 x0) (.int .i64 x1) (.string x2) (.slice xa xl xc) (.slice ya yl yc)).heap.size=W.heap.size:=qbQ
  have bF:Below 0 W (put5 W w.heap.size 0 (.int .i64 x0) (.int .i64 x1) (.string x2) (.slice xa xl xc) (.slice ya yl yc)):=qaZ (Below.refl 0 W) (Nat.zero_le _)
  have aQ:Near R w W:=aO.out.trans (Near.of_below hb)
  have bY:=hb.size
  refine⟨⟨bF.os.trans aQ.os,bF.tape.trans aQ.tape,bF.output.trans aQ.output,by rw[hz];exact aQ.size,fun b h1 h2=>(q b (by omega)).trans (aQ.block b h1 h2)⟩,.inl ⟨t,_,_,_,_,_,by rw[aL.out,aD.out];dsimp only;rw[if_pos ha,if_pos h3],rfl,aF.keep (fun b h=>(q b (by omega)).trans (hb.block b (by omega))) (fun b h=>⟨by omega,by rw[hz];omega⟩),aC.keep (fun b h=>(q b (by omega)).trans (hb.block b (by omega))) (fun b h=>⟨by omega,by rw[hz];omega⟩)⟩⟩
 have aE:Hid (∀ W,Below W2.heap.size W2 W->¬ lenN 25 t<=3000->qhD M R ws w (.panicked (qbV 1 0)) W):=fun W hb h3=>⟨aO.out.trans (Near.of_below hb),.inr ⟨1,0,by rw[aL.out,aD.out];dsimp only;rw[if_pos ha,if_neg h3],rfl⟩⟩
 have aR:Hid (∀ W,Below W2.heap.size W2 W->(W.cell? ⟨R,0,none⟩=some (.pointer (some ⟨bk,0,none⟩))/\W.cell? ⟨w1.heap.size,0,none⟩=some (.int .i64 x0)/\W.cell? ⟨w1.heap.size,1,none⟩=some (.int .i64 x1)/\W.cell? ⟨w1.heap.size,2,none⟩=some (.string x2)/\W.cell? ⟨w1.heap.size,3,none⟩=some (.slice xa xl xc)/\W.cell? ⟨w1.heap.size,4,none⟩=some (.slice ya yl yc))/\W.heap[w.heap.size]?=some (.cells #[.int .i64 0,.int .i64 0,.string ⟨#[]⟩,.slice none 0 0,.slice none 0 0] 25 (0,0))):=fun W hb=>by
  obtain⟨⟨y0,y1,y2,y3,y4⟩,-⟩:=qaC ((hb.block w1.heap.size (by omega)).trans aH)
  exact⟨⟨(aN.out.same hb).cells.1.1,y0,y1,y2,y3,y4⟩,(hb.block w.heap.size (by omega)).trans bD⟩
 clear HN aB HR HL aU aV bB aM aZ aJ bH aG aW bC bD aH aF aC bO aA aD aL aP g1 g3 g4 aN aO
 generalize ws.length=wl at *
 go_wp2_with fail
 rw[<- aK]
 clear aK
 go_quiet (first|(go_at_call 52;refine Calls.quiet_of_same (qbM _ _ _)))
 go_wp2_with fail
 obtain⟨V,hV⟩:∃ V,V=W2.drewN nq:=⟨_,rfl⟩
 have bR:Below W2.heap.size W2 V:=by rw[hV];exact⟨rfl,rfl,rfl,Nat.le_refl _,fun _ _=>rfl⟩
 have bG:Hid (Calls Tryz.prog 53 #[.pointer (some ⟨bk,0,none⟩),.agg #[.int .i64 x0,.int .i64 x1,.string x2,.slice xa xl xc,.slice ya yl yc]] V.drew fun e w'=>(∃ s,e=.returned (.string s)/\s.size=lenN 25 t)/\Below W2.heap.size W2 w' /\ (w'.cell? ⟨R,0,none⟩=some (.pointer (some ⟨bk,0,none⟩))/\w'.cell? ⟨w1.heap.size,0,none⟩=some (.int .i64 x0)/\w'.cell? ⟨w1.heap.size,1,none⟩=some (.int .i64 x1)/\w'.cell? ⟨w1.heap.size,2,none⟩=some (.string x2)/\w'.cell? ⟨w1.heap.size,3,none⟩=some (.slice xa xl xc)/\w'.cell? ⟨w1.heap.size,4,none⟩=some (.slice ya yl yc))):=by
  have h1:=bP.out (nq+1)
  rw[hV]
  refine h1.mono ?_
  rintro e w' ⟨hb,s,rfl,hs⟩
  exact⟨⟨s,rfl,hs⟩,hb,(aR.out w' hb).1⟩
 obtain⟨⟨p0,y0,y1,y2,y3,y4⟩,-⟩:=aR.out V bR
 rw[<- hV]
 clear hV bP bR r0 r1 r2
 go_region_held (fun w'=>w'.cell? ⟨R,0,none⟩=some (.pointer (some ⟨bk,0,none⟩))/\w'.cell? ⟨w1.heap.size,0,none⟩=some (.int .i64 x0)/\w'.cell? ⟨w1.heap.size,1,none⟩=some (.int .i64 x1)/\w'.cell? ⟨w1.heap.size,2,none⟩=some (.string x2)/\w'.cell? ⟨w1.heap.size,3,none⟩=some (.slice xa xl xc)/\w'.cell? ⟨w1.heap.size,4,none⟩=some (.slice ya yl yc)) (first|with_reducible assumption|go_keep) (first|(go_at_call 53;refine bG.out.mono ?_;rintro e w4 ⟨⟨s,rfl,hs⟩,bA,bS⟩))
 all_goals
  have aX:=hidF hs
  have aY:=Lib.hid bA
  obtain⟨⟨p0',y0',y1',y2',y3',y4'⟩,bI⟩:=aR.out w4 bA
  obtain⟨⟨z0,z1,z2,z3,z4⟩,zf⟩:=qaC bI
  have zf0:=zf 0
  have zf1:=zf 1
  have zf2:=zf 2
  have zf3:=zf 3
  have zf4:=zf 4
  have bZ:¬ w.heap.size=w1.heap.size:=by omega
  have bV:¬ w1.heap.size=w.heap.size:=by omega
  by_cases h3:lenN 25 t<=3000
  ·have bW:¬ (3000:Int)<(s.size:Int):=by have:=aX.out;omega
   have bX:¬ (3000:Int)<(lenN 25 t:Int):=by omega
   have HE:=Lib.hid (aI.out w4 aY.out h3)
   clear hs bA bS p0 y0 y1 y2 y3 y4 aI aE aR bG h3 zf bI aX aY p0'
   go_wp2_with fail
   refine bodyPost_ret (by simp[results,Tryz.results35,go_sem,z0,z1,z2,z3,z4];rfl) rfl ?_
   exact HE.out
  ·have bW:(3000:Int)<(s.size:Int):=by have:=aX.out;omega
   have bX:(3000:Int)<(lenN 25 t:Int):=by omega
   have HE:=Lib.hid (aE.out w4 aY.out h3)
   clear hs bA bS p0 y0 y1 y2 y3 y4 aI aE aR bG h3 zf bI aX aY p0' z0 z1 z2 z3 z4 zf0 zf1 zf2 zf3 zf4 y0' y1' y2' y3' y4'
   go_wp2_with fail
   exact⟨rfl,HE.out⟩
end Go.Proofs.YtelogmjfekhmpaaGreatDoor
