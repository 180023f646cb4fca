import Derived.Test.YtelogmjfekhmpaaGreatDoorSP9
namespace Go.Proofs.YtelogmjfekhmpaaGreatDoor
set_option maxRecDepth 100000
set_option maxHeartbeats 16000000
open Go.RowKit
theorem xjI {M:Nat} {s:ByteArray} {l0 l1:Int} {l2:ByteArray} (h:leafW M s=some (l0,l1,l2)) (hs:s.size<=3000):(Lit.int .i64 l0).wf=true/\(Lit.int .i64 l1).wf=true/\l2.size<=10000:=by
 have aA:=qcW h
 dsimp only at aA
 have ha:=aA.2.2
 have hc:l0=1∨l0=2∨l0=3:=by omega
 refine⟨wfT _ (by omega) (by omega),?_,?_⟩
 ·rcases hc with rfl|rfl|rfl
  ·simp only[qaQ,if_true,Bool.and_eq_true,decide_eq_true_eq]at ha;exact wfT _ (by omega) (by omega)
  ·rw[qaQ,if_neg (by decide),if_pos rfl]at ha
   simp only[Bool.and_eq_true,beq_iff_eq]at ha
   exact wfT _ (by omega) (by omega)
  ·rw[qaQ,if_neg (by decide),if_neg (by decide),if_pos rfl]at ha
   simp only[Bool.and_eq_true,decide_eq_true_eq]at ha
   exact wfT _ (by omega) (by omega)
 ·unfold leafW at h
  cases hr:readT (M+1) s with
  | none=>rw[hr]at h;cases h
  | some t=>
   rw[hr]at h
   dsimp only at h
   split at h
   ·cases h
    have ht:=(qeX hr).2.2
    rw[txtL]at ht
    rcases hc with e|e|e
    ·rw[e]at ha
     simp only[qaQ,if_true,Bool.and_eq_true]at ha
     have:=qaG _ ha.1.1.2
     omega
    ·rw[if_neg (by omega),if_pos e]at ht
     have:=congrArg List.length ht
     simp at this
     have h3:(Nd.text t).data.size=(Nd.text t).size:=rfl
     omega
    ·rw[e,qaQ,if_neg (by decide),if_neg (by decide),if_pos rfl]at ha
     simp only[Bool.and_eq_true]at ha
     have:=qaG _ ha.1.1.2
     omega
   ·cases h
theorem qiE (M m:Nat) (hM:3000<=M) (hI:NSaid M m) (P:Nat) (wv:Value) (ws:List ByteArray) (act:Bool) (d:Int) (a c:Nat) (w:World) (hcase:opW (wordD ws a)=0∨act≠decide ((36:Int)<=(opW (wordD ws a):Int))∨opW (wordD ws a)=24) :
  1<=d->d<=25->26<=d+((m+1:Nat):Int)->Prs w P wv ws a c 0 0->a<=ws.length->c<=200->Calls Tryz.prog 11 #[.pointer (some ⟨P,0,none⟩),.bool act,.int .i64 d] w (NPost M (m+1) P wv ws act d a c w):=by
 intro cV bT dD hp ha hc
 have cW:=hp.lt
 obtain⟨W0,bB⟩:∃ W0,W0=w.alloc (.cells #[.int .i64 0,.int .i64 0,.string ⟨#[]⟩,.slice none 0 0,.slice none 0 0] 25):=⟨_,rfl⟩
 have bI:Below w.heap.size w W0:=by rw[bB];exact (Below.refl _ _).alloc (Nat.le_refl _) _
 have cX:W0.heap.size=w.heap.size+1:=by rw[bB];simp
 have bY:W0.heap[w.heap.size]?=some (.cells #[.int .i64 0,.int .i64 0,.string ⟨#[]⟩,.slice none 0 0,.slice none 0 0] 25 (0,0)):=by rw[bB];exact heap_alloc_new _ _
 have bJ:=hp.same bI
 have aK:=Lib.hid hp
 have aR:=Lib.hid bJ
 have aL:Hid (Near P w W0):=Near.of_below bI
 have aM:=Lib.hid bY
 have cY:=hp.few
 obtain⟨⟨q0,q1,q2,q3,q4⟩,-⟩:=bJ.cells
 have aV:=Lib.hid hp.short
 clear hp bI bY bJ q0 q1 q2 q4
 go_enter Tryz.func11,Tryz.ntmps11
 go_upto_region 1 with fail
 rw[<- bB]
 clear bB
 go_upto_if 26 with fail
 go_cut [] from 18 to 28 (fun wx=>Near P W0 wx/\Prs wx P wv ws a c (if 24<d then 3 else 0) (if 24<d then (a:Int) else 0))
 case first=>
  have aN:=Lib.hid (qdE aR.out 3)
  have HE:Hid (¬ 24<d->Near P W0 W0/\Prs W0 P wv ws a c (if 24<d then 3 else 0) (if 24<d then (a:Int) else 0)):=fun h=>by rw[if_neg h,if_neg h];exact⟨Near.refl P W0,aR.out⟩
  by_cases hd:24<d
  ·clear HE
   go_wp2_with fail
   refine aN.out.mono ?_
   rintro e w2 ⟨rfl,aF,aB⟩
   have HR:Hid (Near P W0 w2/\Prs w2 P wv ws a c (if 24<d then 3 else 0) (if 24<d then (a:Int) else 0)):=by rw[if_pos hd,if_pos hd];exact⟨aF,aB⟩
   clear aF aB aN
   go_wp2_with fail
   go_meet
   exact HR.out
  ·have HR:=Lib.hid (HE.out hd)
   clear aN HE
   go_wp2_with fail
   go_meet
   exact HR.out
 case rest=>
  obtain⟨cJ,bU⟩:=hcut
  have bK:=Lib.hid cJ
  have bL:=Lib.hid bU
  obtain⟨⟨q0,q1,q2,q3',q4⟩,-⟩:=bU.cells
  clear cJ bU q0 q1 q3' q4 q3
  go_upto_if 33 with fail
  go_cut [] from 18 to 35 (fun wx=>Near P W0 wx/\Prs wx P wv ws a c (bnd d c) (bndA d a c))
  case first=>
   have aN:=Lib.hid (qdE bL.out 4)
   have HB:Hid ((200<=c->ftC (if 24<d then 3 else 0) 4=bnd d c/\ftA (if 24<d then 3 else 0) (if 24<d then (a:Int) else 0) a=bndA d a c)/\(¬ 200<=c->(if 24<d then 3 else 0)=bnd d c/\(if 24<d then (a:Int) else 0)=bndA d a c)):=by
    refine⟨fun h=>?_,fun h=>?_⟩
    ·unfold bnd bndA ftC ftA bnd
     by_cases hd:24<d
     ·simp only[if_pos hd];exact⟨by decide,by rw[if_neg (by decide),if_neg (by decide)]⟩
     ·simp only[if_neg hd,if_pos h];exact⟨by decide,by rw[if_pos (by decide),if_neg (by decide)]⟩
    ·unfold bnd bndA bnd
     by_cases hd:24<d
     ·simp only[if_pos hd];exact⟨trivial,by rw[if_neg (by decide)]⟩
     ·simp only[if_neg hd,if_neg h];exact⟨trivial,by rw[if_pos (by decide)]⟩
   by_cases hc2:200<=c
   ·have cZ:(c:Int) ≥ 200:=by omega
    have cR:(200:Int)<=(c:Int):=by omega
    rw[(HB.out.1 hc2).1,(HB.out.1 hc2).2]at aN
    clear HB
    go_wp2_with fail
    refine aN.out.mono ?_
    rintro e w2 ⟨rfl,aF,aB⟩
    have HR:Hid (Near P W0 w2/\Prs w2 P wv ws a c (bnd d c) (bndA d a c)):=⟨bK.out.trans aF,aB⟩
    clear aF aB aN
    go_wp2_with fail
    go_meet
    exact HR.out
   ·have cR:¬ (200:Int)<=(c:Int):=by omega
    have HR:Hid (Near P W0 wc/\Prs wc P wv ws a c (bnd d c) (bndA d a c)):=⟨bK.out,by
     have:=bL.out
     rw[(HB.out.2 hc2).1,(HB.out.2 hc2).2]at this
     exact this⟩
    clear HB aN
    go_wp2_with fail
    go_meet
    exact HR.out
  case rest=>
   clear q2 bL bK
   obtain⟨aF,aB⟩:=hcut
   obtain⟨fc,bV⟩:∃ fc,bnd d c=fc:=⟨_,rfl⟩
   obtain⟨fa,bW⟩:∃ fa,bndA d a c=fa:=⟨_,rfl⟩
   rw[bV,bW]at aB
   have aO:=Lib.hid bV
   have aP:=Lib.hid bW
   clear bV bW
   obtain⟨⟨q0,q1,q2,q3,q4⟩,qf⟩:=aB.cells
   have qf2:=qf 2
   have dA:IntKind.i64.wrap ((c:Int)+1)=(c:Int)+1:=by rw[IntKind.wrap_i64];omega
   obtain⟨W3,bG⟩:∃ W3,W3=wc.setCell ⟨P,2,none⟩ (.int .i64 ((c:Int)+1)):=⟨_,rfl⟩
   have bZ:Near P W0 W3:=by rw[bG];exact aF.trans (Near.set P 2 _ _)
   have cA:Prs W3 P wv ws a (c+1) fc fa:=by rw[bG];exact aB.setNo (c+1)
   have cB:=Lib.hid bZ
   have bM:=Lib.hid cA
   clear aF aB bZ cA qf q0 q1 q3 q4
   have HL:=Lib.hid (qfE bM.out)
   have aS:=Lib.hid (qdQ aV.out a)
   obtain⟨s,hs⟩:∃ s,wordD ws a=s:=⟨_,rfl⟩
   rw[hs]at HL aS
   have HS:=Lib.hid hs
   clear hs
   go_upto_region 8 with fail
   rw[<- bG]
   clear bG q2 qf2
   go_upto_if 47 with (first|(go_at_call 21;refine HL.out.mono ?_;clear HL;rintro e w4 ⟨rfl,n4,rfl⟩))
   obtain⟨W4,bH⟩:∃ W4,W4=W3.drewN n4:=⟨_,rfl⟩
   have bN:Near P W0 W4:=by rw[bH];exact qbH cB.out n4
   have cC:Prs W4 P wv ws a (c+1) fc fa:=by rw[bH];exact bM.out.drewN n4
   rw[<- bH]
   have aG:=Lib.hid bN
   have aH:=Lib.hid cC
   have cS:=bN.size
   clear bN cC bH cB bM
   go_cut [7] from 18 to 63 (fun sv wx=>sv=.string s/\Near P W0 wx/\Prs wx P wv ws a (c+1) fc fa/\(act=false->leafW M s=none/\freeB s=false))
   case first=>
    cases act with
    | true=>
     have HR:Hid (Near P W0 W4/\Prs W4 P wv ws a (c+1) fc fa/\(true=false->leafW M s=none/\freeB s=false)):=⟨aG.out,aH.out,fun h=>(by cases h)⟩
     clear aG aH
     go_wp2_with fail
     go_meet
     exact⟨rfl,HR.out⟩
    | false=>
     have HA:=Lib.hid (qsU M hM P s aS.out W4)
     go_wp2_with fail
     refine HA.out.mono ?_
     rintro e w5 ⟨aD,⟨l,hl,rfl⟩|⟨hl,hf,g,dE,cK,rfl⟩|⟨hl,hf,rfl⟩⟩
     ·obtain⟨l0,l1,l2⟩:=l
      dsimp only at hl ⊢
      have bO:=xjI hl aS.out
      obtain⟨W6,aE⟩:∃ W6,W6=w5.alloc (.cells #[.int .i64 l0,.int .i64 l1,.string l2,.slice none 0 0,.slice none 0 0] 25):=⟨_,rfl⟩
      have aA:Below w5.heap.size w5 W6:=by rw[aE];exact (Below.refl _ _).alloc (Nat.le_refl _) _
      have bP:W6.heap.size=w5.heap.size+1:=by rw[aE];simp
      have cD:=aD.size
      have aQ:Near P W0 W6:=(aG.out.trans (Near.of_below aD)).trans (Near.of_below aA)
      have aC:Prs W6 P wv ws a (c+1) fc fa:=(aH.out.same aD).same aA
      obtain⟨⟨q0,q1,q2,q3,q4⟩,qf⟩:=aC.cells
      have qf1:=qf 1
      have cE:IntKind.i64.wrap ((a:Int)+1)=(a:Int)+1:=by rw[IntKind.wrap_i64];omega
      have HP:Hid (NPost M (m+1) P wv ws false d a c w (.returned (.agg #[.int .i64 l0,.int .i64 l1,.string l2,.slice none 0 0,.slice none 0 0])) (put5 (W6.setCell ⟨P,1,none⟩ (.int .i64 ((a+1:Nat):Int))) w.heap.size 0 (.int .i64 l0) (.int .i64 l1) (.string l2) (.slice none 0 0) (.slice none 0 0))):=by
       refine qsX (m:=m+1) aK.out (aL.out.trans (aQ.trans (Near.set P 1 W6 _))) (aC.setAt (a+1)) (t:=(⟨l0,l1,l2,[],[]⟩:Nd (T m))) ?_ (by omega) (by omega) ?_
       ·exact qqI _ _ m l0 l1 l2 bO.1 bO.2.1 bO.2.2
       ·rw[<- aO.out,<- aP.out];exact xbK M _ ws d a c (l0,l1,l2) (by rw[HS.out];exact hl)
      have b6:W6.heap[w5.heap.size]?=some (.cells #[.int .i64 l0,.int .i64 l1,.string l2,.slice none 0 0,.slice none 0 0] 25 (0,0)):=by rw[aE];exact heap_alloc_new _ _
      obtain⟨⟨y0,y1,y2,y3,y4⟩,-⟩:=qaC b6
      have aW:W6.heap[w.heap.size]?=_:=(aQ.block w.heap.size (by omega) (by omega)).trans aM.out
      obtain⟨⟨z0,z1,z2,z3,z4⟩,zf⟩:=qaC aW
      have zf0:=zf 0
      have zf1:=zf 1
      have zf2:=zf 2
      have zf3:=zf 3
      have zf4:=zf 4
      have e1:¬ P=w5.heap.size:=by omega
      have e2:¬ P=w.heap.size:=by omega
      have e3:¬ w.heap.size=w5.heap.size:=by omega
      have e4:¬ w5.heap.size=P:=by omega
      have e5:¬ w.heap.size=P:=by omega
      go_upto_region 12 with fail
      rw[<- aE]
      clear aE zf qf b6 aW aA aQ aC aD aG aH HA aM aL aK aR aV q0 q2 q3 q4 bP
      go_wp2_with fail
      refine bodyPost_ret (v:=.agg #[.int .i64 l0,.int .i64 l1,.string l2,.slice none 0 0,.slice none 0 0]) (by simp[results,Tryz.results11,go_sem,z0,z1,z2,z3,z4]) rfl ?_
      exact HP.out
     ·have cT:g<w5.heap.size:=(Array.getElem?_eq_some_iff.1 cK).1
      obtain⟨W6,aE⟩:∃ W6,W6=w5.alloc (.cells #[.int .i64 4,.int .i64 0,.string ⟨#[]⟩,.slice (some ⟨g,0,none⟩) 1 1,.slice none 0 0] 25):=⟨_,rfl⟩
      have aA:Below w5.heap.size w5 W6:=by rw[aE];exact (Below.refl _ _).alloc (Nat.le_refl _) _
      have bP:W6.heap.size=w5.heap.size+1:=by rw[aE];simp
      have cD:=aD.size
      have aQ:Near P W0 W6:=(aG.out.trans (Near.of_below aD)).trans (Near.of_below aA)
      have aC:Prs W6 P wv ws a (c+1) fc fa:=(aH.out.same aD).same aA
      obtain⟨⟨q0,q1,q2,q3,q4⟩,qf⟩:=aC.cells
      have qf1:=qf 1
      have cE:IntKind.i64.wrap ((a:Int)+1)=(a:Int)+1:=by rw[IntKind.wrap_i64];omega
      have HP:Hid (NPost M (m+1) P wv ws false d a c w (.returned (.agg #[.int .i64 4,.int .i64 0,.string ⟨#[]⟩,.slice (some ⟨g,0,none⟩) 1 1,.slice none 0 0])) (put5 (W6.setCell ⟨P,1,none⟩ (.int .i64 ((a+1:Nat):Int))) w.heap.size 0 (.int .i64 4) (.int .i64 0) (.string ⟨#[]⟩) (.slice (some ⟨g,0,none⟩) 1 1) (.slice none 0 0))):=by
       refine qsX (m:=m+1) aK.out (aL.out.trans (aQ.trans (Near.set P 1 W6 _))) (aC.setAt (a+1)) (t:=(⟨4,0,ByteArray.empty,[s],[]⟩:Nd (T m))) ?_ (by omega) (by omega) ?_
       ·exact xgX _ _ m g s aS.out ⟨by omega,by rw[show (W6.setCell ⟨P,1,none⟩ (.int .i64 ((a+1:Nat):Int))).heap.size=W6.heap.size by simp];omega⟩ ((Below.heap_setCell _ _ _ _ (by show g≠P;omega)).trans ((aA.block g cT).trans cK))
       ·rw[<- aO.out,<- aP.out]
        have:=xbM M (fun b=>qaI M ws m b (d+1)) ws d a c (by rw[HS.out];exact hl) (by rw[HS.out];exact hf)
        rw[HS.out]at this
        exact this
      have b6:W6.heap[w5.heap.size]?=some (.cells #[.int .i64 4,.int .i64 0,.string ⟨#[]⟩,.slice (some ⟨g,0,none⟩) 1 1,.slice none 0 0] 25 (0,0)):=by rw[aE];exact heap_alloc_new _ _
      obtain⟨⟨y0,y1,y2,y3,y4⟩,-⟩:=qaC b6
      have aW:W6.heap[w.heap.size]?=_:=(aQ.block w.heap.size (by omega) (by omega)).trans aM.out
      obtain⟨⟨z0,z1,z2,z3,z4⟩,zf⟩:=qaC aW
      have zf0:=zf 0
      have zf1:=zf 1
      have zf2:=zf 2
      have zf3:=zf 3
      have zf4:=zf 4
      have e1:¬ P=w5.heap.size:=by omega
      have e2:¬ P=w.heap.size:=by omega
      have e3:¬ w.heap.size=w5.heap.size:=by omega
      have e4:¬ w5.heap.size=P:=by omega
      have e5:¬ w.heap.size=P:=by omega
      go_upto_region 12 with fail
      rw[<- aE]
      clear aE zf qf b6 aW aA aQ aC aD aG aH HA aM aL aK aR aV q0 q2 q3 q4 bP
      go_wp2_with fail
      refine bodyPost_ret (v:=.agg #[.int .i64 4,.int .i64 0,.string ⟨#[]⟩,.slice (some ⟨g,0,none⟩) 1 1,.slice none 0 0]) (by simp[results,Tryz.results11,go_sem,z0,z1,z2,z3,z4]) rfl ?_
      exact HP.out
     ·have HR:Hid (Near P W0 (w5.alloc (.cells #[.int .i64 0,.int .i64 0,.string ⟨#[]⟩,.slice none 0 0,.slice none 0 0] 25))/\Prs (w5.alloc (.cells #[.int .i64 0,.int .i64 0,.string ⟨#[]⟩,.slice none 0 0,.slice none 0 0] 25)) P wv ws a (c+1) fc fa/\(false=false->leafW M s=none/\freeB s=false)):=
       ⟨(aG.out.trans (Near.of_below aD)).trans (Near.alloc P w5 _),(aH.out.same aD).same ((Below.refl _ _).alloc (Nat.le_refl _) _),fun _=>⟨hl,hf⟩⟩
      clear aG aH HA aD hl hf
      go_wp2_with fail
      go_meet
      exact⟨rfl,HR.out⟩
   case rest=>
    obtain⟨rfl,bX,cL,cM⟩:=hcut
    have cD:=bX.size
    have bD:=Lib.hid bX
    have bE:=Lib.hid cL
    have bQ:=Lib.hid cM
    have aT:=Lib.hid (qmD s wc)
    clear bX cL cM aG aH cS
    by_cases hop:opW s=0∨act≠decide ((36:Int)<=(opW s:Int))
    case pos=>
     have HG:Hid (∀ w6,Below wc.heap.size wc w6->Calls Tryz.prog 12 #[.pointer (some ⟨P,0,none⟩),.int .i64 2] w6 fun e w'=>e=.returned (.tuple #[])/\NPost M (m+1) P wv ws act d a c w (.returned (.agg #[.int .i64 0,.int .i64 0,.string ⟨#[]⟩,.slice none 0 0,.slice none 0 0])) (put5 w' w.heap.size 0 (.int .i64 0) (.int .i64 0) (.string ⟨#[]⟩) (.slice none 0 0) (.slice none 0 0))/\w'.heap[w.heap.size]?=some (.cells #[.int .i64 0,.int .i64 0,.string ⟨#[]⟩,.slice none 0 0,.slice none 0 0] 25 (0,0))):=fun w6 aA=>by
      refine (qdE (bE.out.same aA) 2).mono ?_
      rintro e w' ⟨rfl,hn,hp⟩
      have aX:Near P W0 w':=(bD.out.trans (Near.of_below aA)).trans hn
      refine⟨rfl,qsX (m:=m+1) aK.out (aL.out.trans aX) hp (t:=(⟨0,0,ByteArray.empty,[],[]⟩:Nd (T m))) (qqI _ _ m 0 0 _ (by decide) (by decide) (by decide)) (by omega) (by omega) ?_,(aX.block w.heap.size (by omega) (by omega)).trans aM.out⟩
      rw[<- aO.out,<- aP.out]
      exact xfY M _ ws act d a c _ (fun h=>by rw[HS.out];exact bQ.out h) (by rw[HS.out];exact hop)
     have bR:=qwH s
     obtain⟨k,hk⟩:∃ k,opW s=k:=⟨_,rfl⟩
     rw[hk]at hop aT bR
     clear hk
     have cU:((k:Int)==0)=true∨(((k:Int)==0)=false/\act=true/\decide ((36:Int)<=(k:Int))=false)∨(((k:Int)==0)=false/\act=false/\decide ((36:Int)<=(k:Int))=true):=by
      rcases hop with h|h
      ·left;simp[h]
      ·by_cases h0:k=0
       ·left;simp[h0]
       ·have hb:((k:Int)==0)=false:=by simp;omega
        by_cases h36:(36:Int)<=(k:Int)
        ·rw[decide_eq_true h36]at h
         exact .inr (.inr ⟨hb,by cases act <;> simp_all,decide_eq_true h36⟩)
        ·rw[decide_eq_false h36]at h
         exact .inr (.inl ⟨hb,by cases act <;> simp_all,decide_eq_false h36⟩)
     clear hop bQ bD bE HS aS aO aP aR aV aL aK
     rcases cU with h1|⟨h1,rfl,h2⟩|⟨h1,rfl,h2⟩
     case' inr.inl=>have h3:¬ (36:Int)<=(k:Int):=of_decide_eq_false h2
     case' inr.inr=>have h3:(36:Int)<=(k:Int):=of_decide_eq_true h2
     all_goals
      go_wp2_with fail
      refine aT.out.mono ?_
      rintro e w6 ⟨rfl,aA⟩
      have HF:=Lib.hid (HG.out w6 aA)
      clear aA HG aT
      go_wp2_with fail
      refine HF.out.mono ?_
      rintro e w7 ⟨rfl,bA,cN⟩
      have HP:=Lib.hid bA
      obtain⟨⟨z0,z1,z2,z3,z4⟩,zf⟩:=qaC cN
      have zf0:=zf 0
      have zf1:=zf 1
      have zf2:=zf 2
      have zf3:=zf 3
      have zf4:=zf 4
      clear zf
      clear bA cN HF aM
      go_wp2_with fail
      refine bodyPost_ret (v:=.agg #[.int .i64 0,.int .i64 0,.string ⟨#[]⟩,.slice none 0 0,.slice none 0 0]) (by simp[results,Tryz.results11,go_sem,z0,z1,z2,z3,z4]) rfl ?_
      exact HP.out
    case neg=>
     have bS:opW s≠0:=fun h=>hop (.inl h)
     have aI:act=decide ((36:Int)<=(opW s:Int)):=by
      by_cases h:act=decide ((36:Int)<=(opW s:Int))
      ·exact h
      ·exact absurd (.inr h) hop
     have aJ:opW s=24:=by
      rcases hcase with h|h
      ·rw[HS.out]at h;exact absurd (.inl h) hop
      ·rcases h with h|h
       ·rw[HS.out]at h;exact absurd (.inr h) hop
       ·rw[HS.out]at h;exact h
     have dB:a<ws.length:=by
      rcases Nat.lt_or_ge a ws.length with h1|h1
      ·exact h1
      ·have:=HS.out
       rw[qbO (List.getElem?_eq_none h1)]at this
       rw[<- this,qpQ]at bS;exact absurd rfl bS
     have aY:Hid (qaI M ws (m+1) act d a c=stepE M (fun b=>qaI M ws m b (d+1)) ws (stE 24 d a c) 70):=xbJ M _ ws act d a c 24 (by rw[HS.out];exact aJ) (by decide) (by rw[aI,aJ];try rfl)
     rw[aJ]at aT aI
     have aZ:act=false:=by rw[aI];rfl
     subst aZ
     have bF:=Lib.hid (xbI (α:=T m) 24 d a c)
     rw[aO.out,aP.out]at bF
     have cF:Hid (fc=0->fa=0/\d<=24/\c+1<=200):=fun h=>by
      have h1:=aO.out
      rw[h]at h1
      have h2:=qwJ h1
      refine⟨?_,by omega,by omega⟩
      rw[<- aP.out];unfold bndA;rw[if_pos h1]
     have cG:Hid (∀ W,Near P W0 W->Prs W P wv ws (a+1) (c+1) fc fa->Calls Tryz.prog 24 #[.pointer (some ⟨P,0,none⟩),.agg #[.int .i64 24,.int .i64 0,.string ⟨#[]⟩,.slice none 0 0,.slice none 0 0],.int .i64 d] W fun e w'=>∃ (x0 x1:Int) (x2:ByteArray) (xa ya:Option Addr) (xl xc yl yc:Nat),e=.returned (.agg #[.int .i64 x0,.int .i64 x1,.string x2,.slice xa xl xc,.slice ya yl yc])/\NPost M (m+1) P wv ws false d a c w (.returned (.agg #[.int .i64 x0,.int .i64 x1,.string x2,.slice xa xl xc,.slice ya yl yc])) (put5 w' w.heap.size 0 (.int .i64 x0) (.int .i64 x1) (.string x2) (.slice xa xl xc) (.slice ya yl yc))/\w'.heap[w.heap.size]?=some (.cells #[.int .i64 0,.int .i64 0,.string ⟨#[]⟩,.slice none 0 0,.slice none 0 0] 25 (0,0))):=fun W hn hp=>by
      have dC:=hn.size
      refine (xdY M m hI P wv ws d (a+1) (c+1) fc fa W cV bT (by omega) hp (by omega) (by omega) cF.out).mono ?_
      rintro e w' ⟨aF,t,c0,c1,c2,c3,c4,a',c',fc',fa',rfl,cO,aB,h1,h2,h3,h4⟩
      have aX:Near P W0 w':=hn.trans aF
      obtain⟨x0,x1,x2,xa,xl,xc,ya,yl,yc,rfl,rfl,rfl,rfl,rfl⟩:=cO.shape
      refine⟨x0,x1,x2,xa,ya,xl,xc,yl,yc,rfl,qsX (m:=m+1) aK.out (aL.out.trans aX) aB (t:=t) (cO.keep (fun _ _=>rfl) (fun b hb=>⟨by omega,hb.2⟩)) h1 h2 ?_,(aX.block w.heap.size (by omega) (by omega)).trans aM.out⟩
      rw[aY.out]
      by_cases hfz:fc=0
      ·have aU:=bF.out
       rw[hfz]at aU
       obtain⟨aU,-⟩:=aU.zero
       rw[aU]
       have:=h3 hfz
       simp only[stepE,stepR,show ¬ ((70:UInt8)=86∨(70:UInt8)=65) by decide,if_false,if_true]
       exact this
      ·obtain⟨er,aU,e1,e2⟩:=bF.out.bad hfz
       rw[aU]
       obtain⟨g1,g2⟩:=h4 hfz
       rw[g1,g2]
       exact⟨e1,e2,hfz⟩
     clear hop hcase bS aI bQ aY bF cF aJ aS HS aO aP aR aV
     go_wp2_with fail
     refine aT.out.mono ?_
     rintro e w6 ⟨rfl,aA⟩
     have aC:=bE.out.same aA
     obtain⟨⟨q0,q1,q2,q3,q4⟩,qf⟩:=aC.cells
     have qf1:=qf 1
     have cE:IntKind.i64.wrap ((a:Int)+1)=(a:Int)+1:=by rw[IntKind.wrap_i64];omega
     obtain⟨W7,bC⟩:∃ W7,W7=(w6.setCell ⟨P,1,none⟩ (.int .i64 ((a:Int)+1))).alloc (.cells #[.int .i64 24,.int .i64 0,.string ⟨#[]⟩,.slice none 0 0,.slice none 0 0] 25):=⟨_,rfl⟩
     have bA:Prs W7 P wv ws (a+1) (c+1) fc fa:=by rw[bC];exact (aC.setAt (a+1)).same ((Below.refl _ _).alloc (Nat.le_refl _) _)
     have cH:Near P W0 W7:=by rw[bC];exact ((bD.out.trans (Near.of_below aA)).trans (Near.set P 1 w6 _)).trans (Near.alloc P _ _)
     have b7:W7.heap[w6.heap.size]?=some (.cells #[.int .i64 24,.int .i64 0,.string ⟨#[]⟩,.slice none 0 0,.slice none 0 0] 25 (0,0)):=by
      have:=heap_alloc_new (w6.setCell ⟨P,1,none⟩ (.int .i64 ((a:Int)+1))) (.cells #[.int .i64 24,.int .i64 0,.string ⟨#[]⟩,.slice none 0 0,.slice none 0 0] 25)
      rw[show (w6.setCell ⟨P,1,none⟩ (.int .i64 ((a:Int)+1))).heap.size=w6.heap.size by simp]at this
      rw[bC];exact this
     obtain⟨⟨y0,y1,y2,y3,y4⟩,-⟩:=qaC b7
     have cI:=Lib.hid (cG.out W7 cH bA)
     clear aC qf bA cH b7 cG bD bE aT aA aL aK aM hI
     go_upto_region 20 with fail
     rw[<- bC]
     clear bC q0 q1 q2 q3 q4 qf1
     go_wp2_with fail
     refine cI.out.mono ?_
     rintro e w8 ⟨x0,x1,x2,xa,ya,xl,xc,yl,yc,rfl,cP,cQ⟩
     have HP:=Lib.hid cP
     obtain⟨⟨z0,z1,z2,z3,z4⟩,zf⟩:=qaC cQ
     have zf0:=zf 0
     have zf1:=zf 1
     have zf2:=zf 2
     have zf3:=zf 3
     have zf4:=zf 4
     clear zf
     clear cP cQ cI y0 y1 y2 y3 y4
     go_wp2_with fail
     refine bodyPost_ret (v:=.agg #[.int .i64 x0,.int .i64 x1,.string x2,.slice xa xl xc,.slice ya yl yc]) (by simp[results,Tryz.results11,go_sem,z0,z1,z2,z3,z4]) rfl ?_
     exact HP.out
end Go.Proofs.YtelogmjfekhmpaaGreatDoor
