import Derived.Test.YtelogmjfekhmpaaGreatDoorSPD
import Derived.Test.YtelogmjfekhmpaaGreatDoorQW4
namespace Go.Proofs.YtelogmjfekhmpaaGreatDoor
set_option maxRecDepth 100000
set_option maxHeartbeats 16000000
open Go.RowKit
def qtR (r:Except Er (T 25)) (w:World) (e:Ending) (w':World):Prop:=
 Below w.heap.size w w' /\ ((∃ (t:T 25) (c0 c1 c2 c3 c4:Value),r=.ok t/\e=.returned (.tuple #[.agg #[c0,c1,c2,c3,c4],.agg #[.int .i64 0,.int .i64 0]])/\NodeIn (fun b=>w.heap.size<=b/\b<w'.heap.size) w' 25 t c0 c1 c2 c3 c4) ∨
  (∃ (code:Int) (at':Nat),r=.error (code,at')/\e=.returned (.tuple #[.agg #[.int .i64 0,.int .i64 0,.string ⟨#[]⟩,.slice none 0 0,.slice none 0 0],.agg #[.int .i64 code,.int .i64 (at':Int)]])))
theorem qrB {n₀ P:Nat} {a w w':World} (h:Below n₀ a w) (hP:n₀<=P) (hw:n₀<=w.heap.size) (hn:Near P w w'):Below n₀ a w':=
 ⟨hn.os.trans h.os,hn.tape.trans h.tape,hn.output.trans h.output,Nat.le_trans h.size hn.size,fun k hk=>(hn.block k (by omega) (by omega)).trans (h.block k hk)⟩
theorem qoE (M:Nat) (hM:3000<=M) (text:ByteArray) (hsz:text.size<=1048576) (w:World) :
  Calls Tryz.prog 4 #[.string text] w (qtR (liftR M text (qbJ text.size text.data.toList)) w):=by
 obtain⟨W,hW⟩:∃ W,W=(w.alloc zeroN).alloc (.cells #[.int .i64 0,.int .i64 0] 27):=⟨_,rfl⟩
 have hs:W.heap.size=w.heap.size+2:=by rw[hW];simp
 have bK:Below w.heap.size w W:=by rw[hW];exact ((Below.refl _ _).alloc (Nat.le_refl _) _).alloc (by simp) _
 have hA:W.heap[w.heap.size]?=some (.cells #[.int .i64 0,.int .i64 0,.string ⟨#[]⟩,.slice none 0 0,.slice none 0 0] 25 (0,0)):=by rw[hW];exact (Below.heap_alloc _ _ _ (by simp)).trans (heap_alloc_new w zeroN)
 have hF:W.heap[w.heap.size+1]?=some (.cells #[.int .i64 0,.int .i64 0] 27 (0,0)):=by
  have:=heap_alloc_new (w.alloc zeroN) (.cells #[.int .i64 0,.int .i64 0] 27)
  rw[show (w.alloc zeroN).heap.size=w.heap.size+1 by simp]at this
  rw[hW];exact this
 by_cases h3:text.size<=3000
 case neg=>
  have cS:(3000:Int)<(text.size:Int):=by omega
  have HP:Hid (qtR (liftR M text (qbJ text.size text.data.toList)) w (.returned (.tuple #[.agg #[.int .i64 0,.int .i64 0,.string ⟨#[]⟩,.slice none 0 0,.slice none 0 0],.agg #[.int .i64 1,.int .i64 0]])) ((w.alloc zeroN).alloc (.cells #[.int .i64 1,.int .i64 0] 27))):=⟨((Below.refl _ _).alloc (Nat.le_refl _) _).alloc (by simp) _,.inr ⟨1,0,by unfold liftR;rw[if_neg h3],rfl⟩⟩
  clear h3 hA hF bK hs hW
  go_enter Tryz.func4,Tryz.ntmps4
  go_wp2_with fail
  refine bodyPost_ret (v:=.tuple #[.agg #[.int .i64 0,.int .i64 0,.string ⟨#[]⟩,.slice none 0 0,.slice none 0 0],.agg #[.int .i64 1,.int .i64 0]]) (by simp[results,Tryz.results4,go_sem]) rfl ?_
  exact HP.out
 have cS:¬ (3000:Int)<(text.size:Int):=by omega
 obtain⟨ws,bV⟩:∃ ws,qbJ text.size text.data.toList=ws:=⟨_,rfl⟩
 have bL:=Lib.hid (qtN text h3 W)
 have cC:=qkN text.size text.data.toList
 have bM:=qkX text.size text.data.toList (by show text.size<=3000;exact h3)
 rw[bV]at bL cC bM
 rw[bV]
 have aP:Hid (liftR M text ws=qgG M ws):=by show _=_;unfold liftR;rw[if_pos h3]
 have aZ:Hid (qgG M ws=match qaI M ws 25 true 1 0 0 with|.error e=>.error e|.ok r=>if r.2.1=ws.length then (if lenN 25 r.1<=3000 then .ok r.1 else .error (1,0)) else .error (2,r.2.1)):=rfl
 have aA:=Lib.hid (qbU M ws 25 true 1 0 0)
 have cD:=Lib.hid bM
 have cT:=Lib.hid bK
 have HA:=Lib.hid hA
 have HF:=Lib.hid hF
 have aR:ws.length<=3000:=by omega
 clear bK hA hF h3 bM bV cC
 go_enter Tryz.func4,Tryz.ntmps4
 go_upto_region 1 with fail
 rw[<- hW]
 clear hW
 go_wp2_with fail
 refine bL.out.mono ?_
 clear bL
 rintro e w3 ⟨v,rfl,bW,aC⟩
 obtain⟨va,vc,rfl⟩:=qeW aC
 have cU:=bW.size
 obtain⟨W4,aQ⟩:∃ W4,W4=w3.alloc (.cells #[.slice va ws.length vc,.int .i64 0,.int .i64 0,.int .i64 0,.int .i64 0] 37):=⟨_,rfl⟩
 have dD:W4.heap.size=w3.heap.size+1:=by rw[aQ];simp
 have bN:Below w3.heap.size w3 W4:=by rw[aQ];exact (Below.refl _ _).alloc (Nat.le_refl _) _
 have cE:Prs W4 w3.heap.size (.slice va ws.length vc) ws 0 0 0 0:=by
  refine⟨by rw[aQ];exact heap_alloc_new _ _,?_,cD.out,aR⟩
  refine qcR (qaL aC fun g hg=>bN.block g (qaF aC g hg).2) (by omega) (fun s h=>by have:=cD.out s h;omega) (fun g hg=>?_)
  have:=qaF aC g hg
  exact⟨by omega,by omega⟩
 have cF:Below W.heap.size W W4:=bW.trans (bN.mono cU)
 have bO:=Lib.hid (xfD M hM 25 w3.heap.size _ ws true 1 0 0 W4 (by omega) (by omega) (by decide) cE (by omega) (by omega))
 have bA:=Lib.hid cF
 obtain⟨ln,bX⟩:∃ ln,ws.length=ln:=⟨_,rfl⟩
 have bP:=Lib.hid bX
 rw[bX]at aQ bO aR ⊢
 clear bW aC bN cE cF bX
 go_upto_region 4 with fail
 rw[<- aQ]
 clear aQ
 go_wp2_with fail
 refine bO.out.mono ?_
 clear bO
 rintro e w5 ⟨bH,t,c0,c1,c2,c3,c4,a1,cc1,fc,fa,rfl,aN,bY,dL,dM,aW⟩
 obtain⟨x0,x1,x2,xa,xl,xc,ya,yl,yc,rfl,rfl,rfl,rfl,rfl⟩:=aN.shape
 obtain⟨P,hP⟩:∃ P,w3.heap.size=P:=⟨_,rfl⟩
 rw[hP]at bH bY
 have dE:=bH.size
 obtain⟨W6,aX⟩:∃ W6,W6=w5.alloc (.cells #[.int .i64 x0,.int .i64 x1,.string x2,.slice xa xl xc,.slice ya yl yc] 25):=⟨_,rfl⟩
 have bB:Below w5.heap.size w5 W6:=by rw[aX];exact (Below.refl _ _).alloc (Nat.le_refl _) _
 have dF:W6.heap.size=w5.heap.size+1:=by rw[aX];simp
 have cG:Near P W4 W6:=bH.trans (Near.of_below bB)
 have cH:=bY.same bB
 have aS:NodeIn (fun b=>W4.heap.size<=b/\b<w5.heap.size) W6 25 t (.int .i64 x0) (.int .i64 x1) (.string x2) (.slice xa xl xc) (.slice ya yl yc):=aN.keep (fun b hb=>bB.block b hb.2) (fun _ h=>h)
 have aT:W6.heap[w5.heap.size]?=some (.cells #[.int .i64 x0,.int .i64 x1,.string x2,.slice xa xl xc,.slice ya yl yc] 25 (0,0)):=by rw[aX];exact heap_alloc_new _ _
 have aU:=Lib.hid cG
 have aJ:=Lib.hid cH
 have aK:=Lib.hid aS
 have aF:=Lib.hid aT
 have aG:=Lib.hid aW
 have dG:=Lib.hid hP
 have dH:w.heap.size+2<=P:=by omega
 have dI:P<W4.heap.size:=by omega
 clear bH bY aN cG cH aS aT aW bB
 obtain⟨f2,aD⟩:∃ f2,f2=(if a1<ln then ftC fc 2 else fc):=⟨_,rfl⟩
 obtain⟨g2,aE⟩:∃ g2,g2=(if a1<ln then ftA fc fa a1 else fa):=⟨_,rfl⟩
 have aB:Hid ((f2≠0->∃ at':Nat,g2=(at':Int)/\qgG M ws=.error (f2,at'))/\(f2=0->a1=ln/\g2=0/\qaI M ws 25 true 1 0 0=.ok (t,a1,cc1))):=by
  have hW:=aZ.out
  cases hres:qaI M ws 25 true 1 0 0 with
  | error e=>
   have hg:=aG.out
   rw[hres]at hg hW
   obtain⟨e1,e2,e3⟩:=hg
   have bC:f2=fc:=by rw[aD];split
                ·unfold ftC;rw[if_neg e3]
                ·rfl
   have bQ:g2=fa:=by rw[aE];split
                ·unfold ftA;rw[if_neg e3]
                ·rfl
   rw[bC,bQ]
   exact⟨fun _=>⟨e.2,e2,by rw[hW,e1]⟩,fun h=>absurd h e3⟩
  | ok r=>
   have hg:=aG.out
   rw[hres]at hg hW
   obtain⟨rfl,rfl,rfl,rfl,rfl⟩:=hg
   have cV:=aA.out _ hres
   have cW:=cV.2.2.2.2.2
   rw[bP.out]at cW hW
   by_cases hlt:r.2.1<ln
   ·rw[if_pos hlt]at aD aE
    have bC:f2=2:=aD
    have bQ:g2=(r.2.1:Int):=aE
    refine⟨fun _=>⟨r.2.1,bQ,?_⟩,fun h=>by rw[bC]at h;cases h⟩
    rw[hW,bC];dsimp only;rw[if_neg (by omega)]
   ·rw[if_neg hlt]at aD aE
    exact⟨fun h=>absurd aD h,fun _=>⟨by omega,aE,rfl⟩⟩
 obtain⟨⟨q0,q1,q2,q3,q4⟩,-⟩:=aJ.out.cells
 go_upto_region 5 with fail
 rw[<- aX]
 clear aX
 clear hP
 have cX:a1<=5000:=by have:=bP.out;omega
 have aV:decide ((a1:Int)<(ln:Int))=decide (a1<ln):=by
  by_cases h:a1<ln
  ·rw[decide_eq_true h,decide_eq_true (by omega)]
  ·rw[decide_eq_false h,decide_eq_false (by omega)]
 clear aV
 go_quiet (fail)
 go_upto_if 26 with fail
 go_cut [] from 6 to 28 (fun wx=>Near P W4 wx/\Prs wx P (.slice va ln vc) ws a1 cc1 f2 g2/\wx.heap[w5.heap.size]?=W6.heap[w5.heap.size]?/\(∀ b,W4.heap.size<=b->b<w5.heap.size->wx.heap[b]?=W6.heap[b]?)/\W6.heap.size<=wx.heap.size)
 case first=>
  have bD:Hid (∀ n,Calls Tryz.prog 12 #[.pointer (some ⟨P,0,none⟩),.int .i64 2] (W6.drewN n) fun e w'=>e=.returned (.tuple #[])/\Near P W6 w' /\ Prs w' P (.slice va ln vc) ws a1 cc1 (ftC fc 2) (ftA fc fa a1)):=fun n=>by
   refine (qdE (aJ.out.drewN n) 2).mono ?_
   rintro e w' ⟨rfl,h1,h2⟩
   exact⟨rfl,(qbH (Near.refl P W6) n).trans h1,h2⟩
  have aH:Hid (∀ w',Near P W6 w'->Prs w' P (.slice va ln vc) ws a1 cc1 f2 g2->Near P W4 w' /\ Prs w' P (.slice va ln vc) ws a1 cc1 f2 g2/\w'.heap[w5.heap.size]?=W6.heap[w5.heap.size]?/\(∀ b,W4.heap.size<=b->b<w5.heap.size->w'.heap[b]?=W6.heap[b]?)/\W6.heap.size<=w'.heap.size):=fun w' hn hp=>
   ⟨aU.out.trans hn,hp,hn.block _ (by omega) (by omega),fun b h1 h2=>hn.block b (by omega) (by omega),hn.size⟩
  by_cases hlt:a1<ln
  ·have hl:(a1:Int)<(ln:Int):=by omega
   have cY:decide ((a1:Int)<(ln:Int))=true:=decide_eq_true hl
   rw[if_pos hlt]at aD aE
   rw[<- aD,<- aE]at bD
   clear aB aJ aU aD aE
   go_wp2_with fail
   refine (bD.out _).mono ?_
   rintro e w8 ⟨rfl,cK,cL⟩
   have HE:=Lib.hid (aH.out w8 cK cL)
   clear cK cL bD aH
   go_wp2_with fail
   go_meet
   exact HE.out
  ·have hl:¬ (a1:Int)<(ln:Int):=by omega
   have cY:decide ((a1:Int)<(ln:Int))=false:=decide_eq_false hl
   rw[if_neg hlt]at aD aE
   subst aD aE
   have HE:Hid (∀ n,Near P W4 (W6.drewN n)/\_):=fun n=>aH.out (W6.drewN n) (qbH (Near.refl P W6) n) (aJ.out.drewN n)
   clear aB aJ aU bD aH
   go_wp2_with fail
   go_meet
   exact HE.out _
 case rest=>
  obtain⟨hn,hp,bI,aO,cM⟩:=hcut
  have bW4:Below w.heap.size w W4:=cT.out.trans (bA.out.mono (by omega))
  have cZ:=bA.out.size
  have bwc:Below w.heap.size w wc:=qrB bW4 (by omega) bW4.size hn
  have hZ:wc.heap[w.heap.size]?=_:=(hn.block w.heap.size (by omega) (by omega)).trans ((bA.out.block w.heap.size (by omega)).trans HA.out)
  have bE:wc.heap[w.heap.size+1]?=_:=(hn.block (w.heap.size+1) (by omega) (by omega)).trans ((bA.out.block (w.heap.size+1) (by omega)).trans HF.out)
  obtain⟨⟨z0,z1,z2,z3,z4⟩,zf⟩:=qaC hZ
  have zf0:=zf 0
  have zf1:=zf 1
  have zf2:=zf 2
  have zf3:=zf 3
  have zf4:=zf 4
  obtain⟨⟨k0,k1⟩,kf0,kf1⟩:=qbZ bE
  obtain⟨⟨y0,y1,y2,y3,y4⟩,-⟩:=qaC (bI.trans aF.out)
  obtain⟨⟨q0',q1',q2',q3',q4'⟩,-⟩:=hp.cells
  have e1:¬ P=w.heap.size:=by omega
  have e2:¬ P=w.heap.size+1:=by omega
  have e3:¬ w.heap.size=P:=by omega
  have e4:¬ w.heap.size+1=P:=by omega
  have e5:¬ w.heap.size=w.heap.size+1:=by omega
  have e6:¬ w.heap.size+1=w.heap.size:=by omega
  have e7:¬ w5.heap.size=w.heap.size:=by omega
  have e8:¬ w5.heap.size=w.heap.size+1:=by omega
  have e9:¬ w.heap.size=w5.heap.size:=by omega
  have bR:=Lib.hid bwc
  clear zf q0 q1 q2 q3 q4 q0' q1' q2' aD aE
  by_cases hf0:f2=0
  case neg=>
   have dJ:(f2==0)=false:=by simp[hf0]
   obtain⟨at',cN,cO⟩:=aB.out.1 hf0
   have HP:Hid (∀ W',Below w.heap.size w W'->qtR (liftR M text ws) w (.returned (.tuple #[.agg #[.int .i64 0,.int .i64 0,.string ⟨#[]⟩,.slice none 0 0,.slice none 0 0],.agg #[.int .i64 f2,.int .i64 g2]])) W'):=fun W' hb=>⟨hb,.inr ⟨f2,at',by rw[aP.out];exact cO,by rw[cN]⟩⟩
   have bS:Hid (∀ W',Below w.heap.size w W'->Below w.heap.size w (((put5 W' w.heap.size 0 (.int .i64 0) (.int .i64 0) (.string ⟨#[]⟩) (.slice none 0 0) (.slice none 0 0)).setCell ⟨w.heap.size+1,0,none⟩ (.int .i64 f2)).setCell ⟨w.heap.size+1,1,none⟩ (.int .i64 g2))):=fun W' hb=>(qjT hb).1
   clear hn hp bI aO cM bW4 bwc hZ bE aB aK aF aG aJ aU aZ aA aP cO cN y0 y1 y2 y3 y4
   go_wp2_with fail
   go_region
   all_goals
    go_wp2_with fail
    refine bodyPost_ret (v:=.tuple #[.agg #[.int .i64 0,.int .i64 0,.string ⟨#[]⟩,.slice none 0 0,.slice none 0 0],.agg #[.int .i64 f2,.int .i64 g2]]) (by simp[results,Tryz.results4,go_sem,z0,z1,z2,z3,z4,k0,k1]) rfl ?_
    exact HP.out _ (bS.out _ bR.out).drew
  ·subst hf0
   obtain⟨dC,rfl,bZ⟩:=aB.out.2 rfl
   obtain⟨g1,gp,g3,g4,-,-⟩:=aA.out _ bZ
   dsimp only at g1 gp g3 g4
   have bT:NodeIn (fun b=>W4.heap.size<=b/\b<w5.heap.size) wc 25 t (.int .i64 x0) (.int .i64 x1) (.string x2) (.slice xa xl xc) (.slice ya yl yc):=aK.out.keep (fun b hb=>aO b hb.1 hb.2) (fun _ h=>h)
   have cI:=Lib.hid (qoD 25 _ t _ _ _ _ _ wc bT (fun b hb=>by omega) g1 (by simpa using gp) (by omega))
   have bF:Hid (qgG M ws=if lenN 25 t<=3000 then .ok t else .error (1,0)):=by
    show _=_
    rw[aZ.out,bZ]
    dsimp only
    rw[if_pos (by rw[bP.out];exact dC)]
   have cJ:=Lib.hid bT
   have aI:Hid (∀ w9,Below wc.heap.size wc w9->Below w.heap.size w w9/\w9.heap[w.heap.size]?=some (.cells #[.int .i64 0,.int .i64 0,.string ⟨#[]⟩,.slice none 0 0,.slice none 0 0] 25 (0,0))/\w9.heap[w.heap.size+1]?=some (.cells #[.int .i64 0,.int .i64 0] 27 (0,0))/\w9.heap[w5.heap.size]?=some (.cells #[.int .i64 x0,.int .i64 x1,.string x2,.slice xa xl xc,.slice ya yl yc] 25 (0,0))/\NodeIn (fun b=>W4.heap.size<=b/\b<w5.heap.size) w9 25 t (.int .i64 x0) (.int .i64 x1) (.string x2) (.slice xa xl xc) (.slice ya yl yc)):=fun w9 hb=>
    ⟨bR.out.trans (hb.mono bR.out.size),(hb.block _ (by omega)).trans hZ,(hb.block _ (by omega)).trans bE,(hb.block _ (by omega)).trans (bI.trans aF.out),cJ.out.keep (fun b h=>hb.block b (by omega)) (fun _ h=>h)⟩
   have dK:w.heap.size+2<W4.heap.size:=by omega
   clear hn hp bI aO cM bW4 bwc hZ bE aB aK aF aG aJ aU aZ aA bT bZ g1 gp g3 g4
   go_wp2_with fail
   refine cI.out.mono ?_
   clear cI
   rintro e w9 ⟨cA,sx,rfl,bJ⟩
   obtain⟨cP,cQ,cR,cB,aY⟩:=aI.out w9 cA
   have dA:=cA.size
   obtain⟨⟨z0',z1',z2',z3',z4'⟩,zf⟩:=qaC cQ
   have zg0:=zf 0
   have zg1:=zf 1
   have zg2:=zf 2
   have zg3:=zf 3
   have zg4:=zf 4
   obtain⟨⟨k0',k1'⟩,kg0,kg1⟩:=qbZ cR
   obtain⟨⟨y0',y1',y2',y3',y4'⟩,-⟩:=qaC cB
   have bG:=Lib.hid cP
   have aL:=Lib.hid aY
   have dB:w5.heap.size<=w9.heap.size:=by
    have:=(Array.getElem?_eq_some_iff.1 cB).1
    omega
   clear zf cQ cR cB cP aY cA aI cJ z0 z1 z2 z3 z4 zf0 zf1 zf2 zf3 zf4 k0 k1 kf0 kf1 y0 y1 y2 y3 y4 q3' q4'
   by_cases h3:lenN 25 t<=3000
   ·have aM:¬ sx.size=0:=fun h=>(bJ.1 h) h3
    have bU:((sx.size:Int)==0)=false:=by rw[beq_eq_false_iff_ne];omega
    have HP:Hid (qtR (liftR M text ws) w (.returned (.tuple #[.agg #[.int .i64 x0,.int .i64 x1,.string x2,.slice xa xl xc,.slice ya yl yc],.agg #[.int .i64 0,.int .i64 0]])) (((put5 w9 w.heap.size 0 (.int .i64 x0) (.int .i64 x1) (.string x2) (.slice xa xl xc) (.slice ya yl yc)).setCell ⟨w.heap.size+1,0,none⟩ (.int .i64 0)).setCell ⟨w.heap.size+1,1,none⟩ (.int .i64 0))):=by
     obtain⟨p1,p2,p3⟩:=qjT (c0:=.int .i64 x0) (c1:=.int .i64 x1) (c2:=.string x2) (c3:=.slice xa xl xc) (c4:=.slice ya yl yc) (x:=.int .i64 0) (y:=.int .i64 0) bG.out
     refine⟨p1,.inl ⟨t,_,_,_,_,_,by rw[aP.out,bF.out,if_pos h3],rfl,aL.out.keep (fun b hb=>p3 b (by omega)) (fun b hb=>⟨by omega,by rw[p2];omega⟩)⟩⟩
    clear aL bG bF aP bJ h3
    go_wp2_with fail
    refine bodyPost_ret (v:=.tuple #[.agg #[.int .i64 x0,.int .i64 x1,.string x2,.slice xa xl xc,.slice ya yl yc],.agg #[.int .i64 0,.int .i64 0]]) (by simp[results,Tryz.results4,go_sem,z0',z1',z2',z3',z4',k0',k1']) rfl ?_
    exact HP.out
   ·have aM:sx.size=0:=bJ.2 h3
    have bU:((sx.size:Int)==0)=true:=by rw[aM];rfl
    have HP:Hid (qtR (liftR M text ws) w (.returned (.tuple #[.agg #[.int .i64 0,.int .i64 0,.string ⟨#[]⟩,.slice none 0 0,.slice none 0 0],.agg #[.int .i64 1,.int .i64 0]])) (((put5 w9 w.heap.size 0 (.int .i64 0) (.int .i64 0) (.string ⟨#[]⟩) (.slice none 0 0) (.slice none 0 0)).setCell ⟨w.heap.size+1,0,none⟩ (.int .i64 1)).setCell ⟨w.heap.size+1,1,none⟩ (.int .i64 0))):=
     ⟨(qjT bG.out).1,.inr ⟨1,0,by rw[aP.out,bF.out,if_neg h3],rfl⟩⟩
    clear aL bG bF aP bJ h3 aM
    go_wp2_with fail
    refine bodyPost_ret (v:=.tuple #[.agg #[.int .i64 0,.int .i64 0,.string ⟨#[]⟩,.slice none 0 0,.slice none 0 0],.agg #[.int .i64 1,.int .i64 0]]) (by simp[results,Tryz.results4,go_sem,z0',z1',z2',z3',z4',k0',k1']) rfl ?_
    exact HP.out
end Go.Proofs.YtelogmjfekhmpaaGreatDoor
