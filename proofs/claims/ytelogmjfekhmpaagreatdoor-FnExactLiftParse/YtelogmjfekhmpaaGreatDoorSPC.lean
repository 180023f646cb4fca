import Derived.Test.YtelogmjfekhmpaaGreatDoorSPB
import Derived.Deep.CutBlock
namespace Go.Proofs.YtelogmjfekhmpaaGreatDoor
set_option maxRecDepth 100000
set_option maxHeartbeats 16000000
open Go.RowKit
theorem xhI (M m:Nat) (hM:3000<=M) (hI:NSaid M m) (P:Nat) (wv:Value) (ws:List ByteArray) (act:Bool) (d:Int) (a c:Nat) (w:World) (k:Nat) (hk:opW (wordD ws a)=k) (hk0:k≠0) (hk24:k≠24) (hact:decide ((36:Int)<=(k:Int))=act) :
  1<=d->d<=25->26<=d+((m+1:Nat):Int)->Prs w P wv ws a c 0 0->a<=ws.length->c<=200->Calls Tryz.prog 11 #[.pointer (some ⟨P,0,none⟩),.bool act,.int .i64 d] w (NPost M (m+1) P wv ws act d a c w):=by
 intro hE cM hG hp ha hc
 have fI:=hp.lt
 obtain⟨W0,cN⟩:∃ W0,W0=w.alloc (.cells #[.int .i64 0,.int .i64 0,.string ⟨#[]⟩,.slice none 0 0,.slice none 0 0] 25):=⟨_,rfl⟩
 have dE:Below w.heap.size w W0:=by rw[cN];exact (Below.refl _ _).alloc (Nat.le_refl _) _
 have fJ:W0.heap.size=w.heap.size+1:=by rw[cN];simp
 have eJ:W0.heap[w.heap.size]?=some (.cells #[.int .i64 0,.int .i64 0,.string ⟨#[]⟩,.slice none 0 0,.slice none 0 0] 25 (0,0)):=by rw[cN];exact heap_alloc_new _ _
 have dF:=hp.same dE
 have bX:=Lib.hid hp
 have dG:=Lib.hid dF
 have eK:Hid (Near P w W0):=Near.of_below dE
 have eL:=Lib.hid eJ
 have gS:=hp.few
 obtain⟨⟨q0,q1,q2,q3,q4⟩,-⟩:=dF.cells
 have eM:=Lib.hid hp.short
 clear hp dE eJ dF q0 q1 q2 q4
 go_enter Tryz.func11,Tryz.ntmps11
 go_upto_region 1 with fail
 rw[<- cN]
 clear cN
 go_upto_if 26 with fail
 go_cut [] from 18 to 28 (fun wx=>Near P W0 wx/\Prs wx P wv ws a c (if 24<d then 3 else 0) (if 24<d then (a:Int) else 0))
 case first=>
  have aK:=Lib.hid (qdE dG.out 3)
  have HE:Hid (¬ 24<d->Near P W0 W0/\Prs W0 P wv ws a c (if 24<d then 3 else 0) (if 24<d then (a:Int) else 0)):=fun h=>by rw[if_neg h,if_neg h];exact⟨Near.refl P W0,dG.out⟩
  by_cases hd:24<d
  ·clear HE
   go_wp2_with fail
   refine aK.out.mono ?_
   rintro e w2 ⟨rfl,aT,aU⟩
   have HR:Hid (Near P W0 w2/\Prs w2 P wv ws a c (if 24<d then 3 else 0) (if 24<d then (a:Int) else 0)):=by rw[if_pos hd,if_pos hd];exact⟨aT,aU⟩
   clear aT aU aK
   go_wp2_with fail
   go_meet
   exact HR.out
  ·have HR:=Lib.hid (HE.out hd)
   clear aK HE
   go_wp2_with fail
   go_meet
   exact HR.out
 case rest=>
  obtain⟨fD,dV⟩:=hcut
  have dH:=Lib.hid fD
  have dI:=Lib.hid dV
  obtain⟨⟨q0,q1,q2,q3',q4⟩,-⟩:=dV.cells
  clear fD dV q0 q1 q3' q4 q3
  go_upto_if 33 with fail
  go_cut [] from 18 to 35 (fun wx=>Near P W0 wx/\Prs wx P wv ws a c (bnd d c) (bndA d a c))
  case first=>
   have aK:=Lib.hid (qdE dI.out 4)
   have HB:Hid ((200<=c->ftC (if 24<d then 3 else 0) 4=bnd d c/\ftA (if 24<d then 3 else 0) (if 24<d then (a:Int) else 0) a=bndA d a c)/\(¬ 200<=c->(if 24<d then 3 else 0)=bnd d c/\(if 24<d then (a:Int) else 0)=bndA d a c)):=by
    refine⟨fun h=>?_,fun h=>?_⟩
    ·unfold bnd bndA ftC ftA bnd
     by_cases hd:24<d
     ·simp only[if_pos hd];exact⟨by decide,by rw[if_neg (by decide),if_neg (by decide)]⟩
     ·simp only[if_neg hd,if_pos h];exact⟨by decide,by rw[if_pos (by decide),if_neg (by decide)]⟩
    ·unfold bnd bndA bnd
     by_cases hd:24<d
     ·simp only[if_pos hd];exact⟨trivial,by rw[if_neg (by decide)]⟩
     ·simp only[if_neg hd,if_neg h];exact⟨trivial,by rw[if_pos (by decide)]⟩
   by_cases hc2:200<=c
   ·have gT:(c:Int) ≥ 200:=by omega
    have fK:(200:Int)<=(c:Int):=by omega
    rw[(HB.out.1 hc2).1,(HB.out.1 hc2).2]at aK
    clear HB
    go_wp2_with fail
    refine aK.out.mono ?_
    rintro e w2 ⟨rfl,aT,aU⟩
    have HR:Hid (Near P W0 w2/\Prs w2 P wv ws a c (bnd d c) (bndA d a c)):=⟨dH.out.trans aT,aU⟩
    clear aT aU aK
    go_wp2_with fail
    go_meet
    exact HR.out
   ·have fK:¬ (200:Int)<=(c:Int):=by omega
    have HR:Hid (Near P W0 wc/\Prs wc P wv ws a c (bnd d c) (bndA d a c)):=⟨dH.out,by
     have:=dI.out
     rw[(HB.out.2 hc2).1,(HB.out.2 hc2).2]at this
     exact this⟩
    clear HB aK
    go_wp2_with fail
    go_meet
    exact HR.out
  case rest=>
   clear q2 dI dH
   obtain⟨aT,aU⟩:=hcut
   obtain⟨fc,dW⟩:∃ fc,bnd d c=fc:=⟨_,rfl⟩
   obtain⟨fa,dX⟩:∃ fa,bndA d a c=fa:=⟨_,rfl⟩
   rw[dW,dX]at aU
   have dJ:=Lib.hid dW
   have dK:=Lib.hid dX
   clear dW dX
   obtain⟨⟨q0,q1,q2,q3,q4⟩,qf⟩:=aU.cells
   have qf2:=qf 2
   have gU:IntKind.i64.wrap ((c:Int)+1)=(c:Int)+1:=by rw[IntKind.wrap_i64];omega
   obtain⟨W3,dC⟩:∃ W3,W3=wc.setCell ⟨P,2,none⟩ (.int .i64 ((c:Int)+1)):=⟨_,rfl⟩
   have eN:Near P W0 W3:=by rw[dC];exact aT.trans (Near.set P 2 _ _)
   have eO:Prs W3 P wv ws a (c+1) fc fa:=by rw[dC];exact aU.setNo (c+1)
   have eP:=Lib.hid eN
   have dL:=Lib.hid eO
   clear aT aU eN eO qf q0 q1 q3 q4
   have HL:=Lib.hid (qfE dL.out)
   have bY:=Lib.hid (qdQ eM.out a)
   obtain⟨s,hs⟩:∃ s,wordD ws a=s:=⟨_,rfl⟩
   rw[hs]at HL bY
   have HS:=Lib.hid hs
   have aY:Hid (opW s=k):=by show _=_;rw[<- hs];exact hk
   clear hs
   go_upto_region 8 with fail
   rw[<- dC]
   clear dC q2 qf2
   go_upto_if 47 with (first|(go_at_call 21;refine HL.out.mono ?_;clear HL;rintro e w4 ⟨rfl,n4,rfl⟩))
   obtain⟨W4,dD⟩:∃ W4,W4=W3.drewN n4:=⟨_,rfl⟩
   have aM:Near P W0 W4:=by rw[dD];exact qbH eP.out n4
   have aZ:Prs W4 P wv ws a (c+1) fc fa:=by rw[dD];exact dL.out.drewN n4
   rw[<- dD]
   have cB:=Lib.hid aM
   have cC:=Lib.hid aZ
   have fL:=aM.size
   clear aM aZ dD eP dL
   go_cut [7] from 18 to 63 (fun sv wx=>sv=.string s/\Near P W0 wx/\Prs wx P wv ws a (c+1) fc fa/\(act=false->leafW M s=none/\freeB s=false))
   case first=>
    cases act with
    | true=>
     have HR:Hid (Near P W0 W4/\Prs W4 P wv ws a (c+1) fc fa/\(true=false->leafW M s=none/\freeB s=false)):=⟨cB.out,cC.out,fun h=>(by cases h)⟩
     clear cB cC
     go_wp2_with fail
     go_meet
     exact⟨rfl,HR.out⟩
    | false=>
     have HA:=Lib.hid (qsU M hM P s bY.out W4)
     go_wp2_with fail
     refine HA.out.mono ?_
     rintro e w5 ⟨aO,⟨l,hl,rfl⟩|⟨hl,hf,g,hH,hJ,rfl⟩|⟨hl,hf,rfl⟩⟩
     ·exact absurd (qwI hl) (by rw[aY.out];exact hk0)
     ·exact absurd (xbL hf) (by rw[aY.out];exact hk0)
     ·have HR:Hid (Near P W0 (w5.alloc (.cells #[.int .i64 0,.int .i64 0,.string ⟨#[]⟩,.slice none 0 0,.slice none 0 0] 25))/\Prs (w5.alloc (.cells #[.int .i64 0,.int .i64 0,.string ⟨#[]⟩,.slice none 0 0,.slice none 0 0] 25)) P wv ws a (c+1) fc fa/\(false=false->leafW M s=none/\freeB s=false)):=
       ⟨(cB.out.trans (Near.of_below aO)).trans (Near.alloc P w5 _),(cC.out.same aO).same ((Below.refl _ _).alloc (Nat.le_refl _) _),fun _=>⟨hl,hf⟩⟩
      clear cB cC HA aO hl hf
      go_wp2_with fail
      go_meet
      exact⟨rfl,HR.out⟩
   case rest=>
    obtain⟨rfl,aC,aI,fE⟩:=hcut
    have fM:=aC.size
    have bA:=Lib.hid aC
    have bB:=Lib.hid aI
    have fN:=Lib.hid fE
    have eQ:=Lib.hid (qmD s wc)
    clear aC aI fE cB cC fL
    have cD:Hid (Calls Tryz.prog 23 #[.string s] wc fun e w'=>e=.returned (.int .i64 (k:Nat))/\Below wc.heap.size wc w'):=by
     have:=eQ.out
     rw[aY.out]at this;exact this
    have aB:k<44:=by have:=qwH s;rw[aY.out]at this;exact this
    have gV:((k:Int)==0)=false:=by simp;omega
    have gW:((k:Int)==24)=false:=by simp;omega
    have eR:a<ws.length:=by
     rcases Nat.lt_or_ge a ws.length with h1|h1
     ·exact h1
     ·have:=aY.out
      rw[<- HS.out,qbO (List.getElem?_eq_none h1),qpQ]at this;omega
    have aJ:Hid (qaI M ws (m+1) act d a c=foldE M (fun b=>qaI M ws m b (d+1)) ws (prt k) (stE (k:Int) d a c)):=xbJ M _ ws act d a c k (by rw[HS.out];exact aY.out) hk0 hact.symm
    have dM:=Lib.hid hI
    have fO:=Lib.hid hact
    have eS:=Lib.hid aY.out
    clear eQ fN bY eM dG aY hk
    go_wp2_with fail
    refine cD.out.mono ?_
    rintro e w6 ⟨rfl,aL⟩
    have fP:=aL.size
    have dN:=bB.out.same aL
    obtain⟨⟨q0,q1,q2,q3,q4⟩,qf⟩:=dN.cells
    have qf1:=qf 1
    have gX:IntKind.i64.wrap ((a:Int)+1)=(a:Int)+1:=by rw[IntKind.wrap_i64];omega
    obtain⟨W6,cO⟩:∃ W6,W6=w6.setCell ⟨P,1,none⟩ (.int .i64 ((a:Int)+1)):=⟨_,rfl⟩
    obtain⟨W7,dY⟩:∃ W7,W7=(w6.setCell ⟨P,1,none⟩ (.int .i64 ((a:Int)+1))).alloc (.cells #[.int .i64 (k:Int),.int .i64 0,.string ⟨#[]⟩,.slice none 0 0,.slice none 0 0] 25):=⟨_,rfl⟩
    obtain⟨X,hX⟩:∃ X,w6.heap.size=X:=⟨_,rfl⟩
    have eT:W6.heap.size=X:=by rw[cO,<- hX];simp
    have bK:Prs W6 P wv ws (a+1) (c+1) fc fa:=by rw[cO];exact dN.setAt (a+1)
    have bZ:Near P W0 W6:=by rw[cO];exact (bA.out.trans (Near.of_below aL)).trans (Near.set P 1 w6 _)
    have dO:W6.heap[w.heap.size]?=_:=(bZ.block w.heap.size (by omega) (by omega)).trans eL.out
    obtain⟨Z,hZ⟩:∃ Z,Z=w.heap.size:=⟨_,rfl⟩
    rw[<- hZ]at dO
    have eU:Hid (NRel M m P X Z wv ws d a c k W6 W7 [] 0 ByteArray.empty [] [] 0 0 (a+1) (c+1) fc fa none 0 none 0):=NRel.start eT.symm (by rw[dY,cO]) bK dJ.out dK.out eR cM hc dO
    have bL:Hid (Prs W6 P wv ws (a+1) (c+1) (bnd d c) (bndA d a c)):=by rw[dJ.out,dK.out];exact bK
    have cA:Hid (Near P w W6):=eK.out.trans bZ
    have cU:Hid (W6.heap.size<=X):=by show _<=_;omega
    have bC:P<X:=by omega
    have cV:Z<X:=by omega
    have cW:Z≠P:=by omega
    have fQ:=Lib.hid hZ
    have eV:w.heap.size<X:=by omega
    have fR:=Lib.hid eV
    clear dN qf bK bZ dO bA bB cD aL eK eL dJ dK fM fP eT cO
    go_upto_region 20 with fail
    rw[<- dY]
    clear dY q0 q1 q2 q3 q4 qf1
    (try rw[hX])
    rw[<- hZ]
    clear hX hZ eV fJ fI
    go_wp2_with fail
    go_loopw [12] (fun iv wr=>∃ (i:Nat) (ns:List ByteArray) (a1:Nat) (fc1 fa1:Int) (na:Option Addr) (nc:Nat),iv=.int .i64 (i:Int)/\i<=nmS k/\a1<=ws.length/\NRel M m P X Z wv ws d a c k W6 wr ((preL k).take i) 0 ByteArray.empty ns [] i 0 a1 (c+1) fc1 fa1 na nc none 0) (fun iv _=>nmS k - (intOf iv).toNat)
    case atStart=>exact⟨0,[],a+1,fc,fa,none,0,rfl,Nat.zero_le _,eR,eU.out⟩
    case round=>
     clear eU
     obtain⟨i,ns,a1,fc1,fa1,na,nc,rfl,hi,dZ,hrel⟩:=hrel
     have HR:=Lib.hid hrel
     clear hrel
     have aT:=qiG k aB
     have cE:=Lib.hid (qkR k aB wr)
     have aG:=Lib.hid (xeG k aB i)
     obtain⟨nq,eA⟩:∃ nq,nmS k=nq:=⟨_,rfl⟩
     rw[eA]at cE aG hi aT
     have cF:=Lib.hid eA
     clear eA
     by_cases hlt:i<nq
     ·have dP:(i:Int)<(nq:Int):=by omega
      have gY:(i:Int)<=1:=by omega
      obtain⟨eB,eC,bQ⟩:=aG.out hlt
      obtain⟨p,bR⟩:∃ p,(preL k).getD i 0=p:=⟨_,rfl⟩
      rw[bR]at eB eC bQ
      have x3:wr.cell? ⟨X,3,none⟩=some (.slice na i nc):=(qaC HR.out.many.box).1.2.2.2.1
      have aH:Hid (∀ q,i=q+1->∃ g u,na=some ⟨g,0,none⟩/\wr.cell? ⟨g,0,none⟩=some (.string u)/\ns=[u]):=fun q hq=>by
       have bM:=HR.out.many.names
       rw[HR.out.nlE]at bM
       have fS:i=1:=by omega
       have hl:=HR.out.nlE
       rw[fS]at bM hl
       obtain⟨g,hg⟩:=qmP bM
       rw[hg]at bM
       match ns,hl,bM with
       | [u],_,bM=>exact⟨g,u,hg,by have:=qmQ (q:=0) bM rfl;exact this,rfl⟩
      go_upto_if 100 with (first|(go_at_call 25;refine cE.out.mono ?_;clear cE;rintro e w2 ⟨rfl,rfl⟩))
      go_cut [12,13] from 93 to 114 (fun iv uv wx=>iv=.int .i64 (i:Int)/\w2=wx/\∃ un,uv=.string un/\((i=0/\un=⟨#[]⟩)∨(i=1/\ns=[un])))
      case first=>
       clear HR aJ bL cA aG bX
       rcases Nat.eq_zero_or_pos i with eD|eD
       ·subst eD
        go_wp2_with fail
        go_meet
        exact⟨by first|rfl|trivial,by first|rfl|trivial,_,rfl,.inl ⟨by first|rfl|trivial,by first|rfl|trivial⟩⟩
       ·obtain⟨g,u,rfl,hK,fF⟩:=aH.out (i - 1) (by omega)
        have gZ:(0:Int)<(i:Int):=by omega
        have fT:Hid (i=1):=by show _=_;omega
        have hA:0<i:=eD
        have fU:=Lib.hid fF
        clear aH fF
        go_wp2_with fail
        go_meet
        exact⟨by first|rfl|trivial,by first|rfl|trivial,_,rfl,.inr ⟨fT.out,fU.out⟩⟩
      case rest=>
       obtain⟨rfl,rfl,un,rfl,fG⟩:=hcut
       have fV:=Lib.hid fG
       have fW:=Lib.hid eC
       have fX:=Lib.hid eB
       have dQ:=Lib.hid bQ
       have bD:=HR.out.many.lt
       have fY:Hid (∀ W,Calls Tryz.prog 27 #[.int .i64 (k:Int)] W fun e w'=>e=.returned (.bool (bdS k))/\w'=W):=fun W=>qkS k aB W
       have HK:=Lib.hid (xeH (HR.out.prs.drewN 1) (by omega) (bdS k) un)
       have HO:Hid (w2.ownsRow (X+1) 9 1 (.slice na i nc) i (ns.map .string)):=by
        have:=HR.out.many.names
        rw[HR.out.nlE]at this;exact this
       obtain⟨is0,aR,cP,cQ,cR⟩:=info_parts Tryz.info_strF
       have cX:Hid (_/\_/\_/\_):=⟨aR,cP,cQ,cR⟩
       clear aR cP cQ cR fG eC eB bQ bR aH aG
       generalize bdS k=fr at *
       go_wp2_with fail
       go_region_law (first
        | (refine step_append_lies _ (by rfl) (.tmp 106) (.tmp 112) 22 (by rfl) (X+1) 9 is0 _ 1 16 Tryz.underlying22 cX.out.1 cX.out.2.1 cX.out.2.2.1 cX.out.2.2.2 rfl (by decide) (.slice na i nc) i (ns.map .string) (by rfl) (aN _) ⟨v2.heap.size,0,none⟩ 1 1 [.string x5] (by rfl) rfl (World.news_of_block (heap_alloc_new v2 _)) (by simp[Value.oneCell']) (by decide) (by unfold maxLen;omega) (by omega) (by simp;omega) (v2.heap.size+1) (by simp) ?_;intro g2 cap2 v3 aF aA aS bS;have aL:=(qeE (W:=w2.drew) (X:=X) (Y:=X) HO.out bD bC (Nat.le_refl X) aC aA).trans HR.out.many.box;have x3'':v3.cell? ⟨X,3,none⟩=some (.slice na i nc):=(by simp[World.cell?,aL]);have xg'':v3.frozen? ⟨X,3,none⟩=false:=(by simp[World.frozen?,aL]))
        | (go_simp;go_at_call 27;refine (fY.out _).mono ?_;rintro e vb ⟨rfl,rfl⟩)
        | (go_simp;go_at_call 26;refine HK.out.mono ?_;rintro e v2 ⟨x5,a5,fc5,fa5,rfl,gO,bT,aC,aI⟩;have dR:w2.heap.size<=v2.heap.size:=aC.size;have aN:=fun o=>qqJ (R:=P) (Y:=X) (W:=w2.drew) HO.out bC aC o;have x3':v2.cell? ⟨X,3,none⟩=some (.slice na i nc):=(World.cell?_of_block (aC.block X (by simpa using bD) (by omega))).trans x3;have x3a:(v2.alloc (.cells #[.string x5] 9)).cell? ⟨X,3,none⟩=some (.slice na i nc):=(World.cell?_of_block (Below.heap_alloc _ _ _ (by show X<_;omega))).trans x3'))
       all_goals
        have eW:Near P w2 v2:=(qbH (Near.refl P w2) 1).trans aC
        have HF:=Lib.hid (HR.out.name (Wa:=v2.alloc (.cells #[.string x5] 9)) dZ bC cU.out cV cW cM fX.out fW.out (fun _=>by
         rcases fV.out with ⟨e1,e2⟩|⟨e1,e2⟩
         ·refine .inl ⟨?_,e2⟩
          have:=HR.out.nlE
          exact List.eq_nil_of_length_eq_zero (by omega)
         ·exact .inr ⟨e2,(dQ.out.resolve_left (by omega)).2⟩) bT gO eW aI rfl bL.out aF aA aS)
        have dS:=qxB bT dZ
        clear aF aA aS bS aI aC aN x3' x3a x3'' xg'' aL eW bT x3
        go_wp2_with fail
        go_roundw
        case rel=>exact⟨i+1,ns++[x5],a5,fc5,fa5,some ⟨g2,0,none⟩,cap2,by go_num,by have:=cF.out;omega,dS,HF.out⟩
        case measure=>have:=cF.out;simp[intOf];omega
     ·have dP:¬ (i:Int)<(nq:Int):=by omega
      obtain rfl:i=nq:=by omega
      go_upto_block 2 with (first|(go_at_call 25;refine cE.out.mono ?_;clear cE;rintro e w2 ⟨rfl,rfl⟩))
      go_cut [] from 93 to 149 (fun wx=>∃ (nm:Int) (tx:ByteArray) (a2:Nat) (fc2 fa2:Int),NRel M m P X Z wv ws d a c k W6 wx (preL k) nm tx ns [] i 0 a2 (c+1) fc2 fa2 na nc none 0)
      case first=>
       have aV:Hid (∀ W,Calls Tryz.prog 28 #[.string (wordD ws a1)] W fun e w'=>Below W.heap.size W w' /\ ∃ (s0:Int) (b1 b2:Option Addr) (l1 l2 k1 k2:Nat),e=.returned (.tuple #[.agg #[.int .i64 s0,.slice b1 l1 k1,.slice b2 l2 k2],.bool (kindB (wordD ws a1))])):=fun W=>qvF _ (qdQ HR.out.prs.short a1) W
       have bE:Hid (∀ W,(∃ fc9 fa9,Prs W P wv ws a1 (c+1) fc9 fa9)->Calls Tryz.prog 21 #[.pointer (some ⟨P,0,none⟩)] W fun e w'=>e=.returned (.string (wordD ws a1))/\∃ n,w'=W.drewN n):=fun W h=>by obtain⟨_,_,h⟩:=h;exact qfE h
       have bY:=Lib.hid (qdQ HR.out.prs.short a1)
       have fZ:5<=k:=by
        have:=qpP (s:=s) (by rw[eS.out];exact hk0)
        rw[eS.out]at this;exact this.2.1
       by_cases bJ:k=5∨k=6
       ·obtain⟨e0,e1⟩:=xeI k aB bJ
        have gA:Hid (i=0):=by show _=_;have:=cF.out;omega
        have HG:=Lib.hid (xgA M (fun b=>qaI M ws m b (d+1)) ws HR.out.got (wordD ws a1))
        have cG:Hid (stepE M (fun b=>qaI M ws m b (d+1)) ws (foldE M (fun b=>qaI M ws m b (d+1)) ws ((preL k).take i) (stE (k:Int) d a c)) 75=foldE M (fun b=>qaI M ws m b (d+1)) ws (preL k) (stE (k:Int) d a c)):=by
         show _=_
         rw[gA.out,e1];rfl
        rw[cG.out]at HG
        have aD:Hid (∀ W2 fc2 fa2,Near P w2 W2->Prs W2 P wv ws a1 (c+1) fc2 fa2->Got (foldE M (fun b=>qaI M ws m b (d+1)) ws (preL k) (stE (k:Int) d a c)) (⟨(k:Int),0,wordD ws a1,ns,[]⟩:Nd (T m)) (a1+1) (c+1) fc2 fa2->(fc2=0->fc1=0/\fa2=fa1/\a1+1<=ws.length)->NRel M m P X Z wv ws d a c k W6 ((W2.setCell ⟨X,2,none⟩ (.string (wordD ws a1))).setCell ⟨P,1,none⟩ (.int .i64 ((a1+1:Nat):Int))) (preL k) 0 (wordD ws a1) ns [] i 0 (a1+1) (c+1) fc2 fa2 na nc none 0):=fun W2 fc2 fa2 hn hp hg hok=>
         HR.out.set2 bC cU.out cV cW bL.out hn hp (.inr ⟨rfl,rfl,rfl⟩) hg (by omega) hok ⟨by omega,by omega,bY.out⟩
        have aE:Hid (kindB (wordD ws a1)=true->a1+1<=ws.length):=fun h=>by
         rcases Nat.lt_or_ge a1 ws.length with h1|h1
         ·exact h1
         ·rw[qbO (List.getElem?_eq_none h1),qrT]at h;cases h
        have cH:=Lib.hid HR.out.prs
        have aK:Hid (∀ W,Near P w2 W->Prs W P wv ws a1 (c+1) fc1 fa1->Calls Tryz.prog 12 #[.pointer (some ⟨P,0,none⟩),.int .i64 2] W fun e w'=>e=.returned (.tuple #[])/\Near P w2 w' /\ Prs w' P wv ws a1 (c+1) (ftC fc1 2) (ftA fc1 fa1 a1)):=fun W hn hp=>by
         refine (qdE hp 2).mono ?_
         rintro e w' ⟨rfl,h1,h2⟩
         exact⟨rfl,hn.trans h1,h2⟩
        have bD:=HR.out.many.lt
        have aW:=Lib.hid HR.out.many.box
        have gB:IntKind.i64.wrap ((a1:Int)+1)=(a1:Int)+1:=by rw[IntKind.wrap_i64];omega
        obtain⟨x,hx⟩:∃ x,wordD ws a1=x:=⟨_,rfl⟩
        rw[hx]at aV bE HG aD aE
        clear aJ bX cA e0 e1 cG aG hx HR
        have cY:((k:Int)==5)=true∨(((k:Int)==5)=false/\((k:Int)==6)=true):=by
         rcases bJ with h|h
         ·left;simp[h]
         ·right;simp[h]
        clear bJ
        have cZ:=Lib.hid (bE.out w2 ⟨_,_,cH.out⟩)
        cases hkb:kindB x with
        | true=>
         rw[hkb]at aV
         have cI:=Lib.hid (HG.out.1 hkb)
         have gC:=Lib.hid (aE.out hkb)
         clear HG aE hkb aK
         rcases cY with h5|⟨h5,h6⟩
         all_goals
          go_wp2_with fail
          refine cZ.out.mono ?_
          clear cZ
          rintro e w3 ⟨rfl,n3,rfl⟩
          go_wp2_with fail
          refine (aV.out _).mono ?_
          clear aV
          rintro e w4 ⟨bU,s0,b1,b2,l1,l2,k1,k2,rfl⟩
          obtain⟨W5,bW⟩:∃ W5,W5=w4.alloc (.cells #[.int .i64 s0,.slice b1 l1 k1,.slice b2 l2 k2] 55):=⟨_,rfl⟩
          have aO:Below w4.heap.size w4 W5:=by rw[bW];exact (Below.refl _ _).alloc (Nat.le_refl _) _
          have aC:Near P w2 W5:=((qbH (Near.refl P w2) n3).trans (Near.of_below bU)).trans (Near.of_below aO)
          have aI:Prs W5 P wv ws a1 (c+1) fc1 fa1:=((cH.out.drewN n3).same bU).same aO
          have cJ:=Lib.hid (bE.out W5 ⟨_,_,aI⟩)
          have bA:=Lib.hid aC
          have bB:=Lib.hid aI
          clear bU aO aC aI bE
          go_upto_region 35 with fail
          rw[<- bW]
          clear bW
          go_wp2_with fail
          refine cJ.out.mono ?_
          clear cJ
          rintro e w6' ⟨rfl,n6,rfl⟩
          obtain⟨V,hV⟩:∃ V,V=W5.drewN n6:=⟨_,rfl⟩
          have bN:Near P w2 V:=by rw[hV];exact qbH bA.out n6
          have bO:Prs V P wv ws a1 (c+1) fc1 fa1:=by rw[hV];exact bB.out.drewN n6
          have HF:=Lib.hid (aD.out V fc1 fa1 bN bO cI.out (fun h=>⟨h,rfl,gC.out⟩))
          have bV:=(bN.block X bD (by omega)).trans aW.out
          have y2:=(qaC bV).1.2.2.1
          have y2f:=(qaC bV).2 2
          obtain⟨⟨g0,g1,g2,g3,g4⟩,gf⟩:=bO.cells
          have gf1:=gf 1
          rw[<- hV]
          clear hV bN bO bV gf aD cI bA bB cH aW
          go_wp2_with fail
          go_meet
          exact⟨_,_,_,_,_,HF.out⟩
        | false=>
         rw[hkb]at aV
         have cI:=Lib.hid (HG.out.2 hkb)
         clear HG aE hkb
         rcases cY with h5|⟨h5,h6⟩
         all_goals
          go_wp2_with fail
          refine cZ.out.mono ?_
          clear cZ
          rintro e w3 ⟨rfl,n3,rfl⟩
          go_wp2_with fail
          refine (aV.out _).mono ?_
          clear aV
          rintro e w4 ⟨bU,s0,b1,b2,l1,l2,k1,k2,rfl⟩
          obtain⟨W5,bW⟩:∃ W5,W5=w4.alloc (.cells #[.int .i64 s0,.slice b1 l1 k1,.slice b2 l2 k2] 55):=⟨_,rfl⟩
          have aO:Below w4.heap.size w4 W5:=by rw[bW];exact (Below.refl _ _).alloc (Nat.le_refl _) _
          have aC:Near P w2 W5:=((qbH (Near.refl P w2) n3).trans (Near.of_below bU)).trans (Near.of_below aO)
          have aI:Prs W5 P wv ws a1 (c+1) fc1 fa1:=((cH.out.drewN n3).same bU).same aO
          have eX:=Lib.hid (aK.out W5 aC aI)
          clear bU aO aC aI aK
          go_upto_region 34 with fail
          rw[<- bW]
          clear bW
          go_wp2_with fail
          refine eX.out.mono ?_
          clear eX
          rintro e w7 ⟨rfl,bZ,bK⟩
          have cJ:=Lib.hid (bE.out w7 ⟨_,_,bK⟩)
          have bA:=Lib.hid bZ
          have bB:=Lib.hid bK
          clear bZ bK bE
          go_wp2_with fail
          refine cJ.out.mono ?_
          clear cJ
          rintro e w6' ⟨rfl,n6,rfl⟩
          obtain⟨V,hV⟩:∃ V,V=w7.drewN n6:=⟨_,rfl⟩
          have bN:Near P w2 V:=by rw[hV];exact qbH bA.out n6
          have bO:Prs V P wv ws a1 (c+1) (ftC fc1 2) (ftA fc1 fa1 a1):=by rw[hV];exact bB.out.drewN n6
          have HF:=Lib.hid (aD.out V _ _ bN bO cI.out (fun h=>absurd h (xiB fc1)))
          have bV:=(bN.block X bD (by omega)).trans aW.out
          have y2:=(qaC bV).1.2.2.1
          have y2f:=(qaC bV).2 2
          obtain⟨⟨g0,g1,g2,g3,g4⟩,gf⟩:=bO.cells
          have gf1:=gf 1
          rw[<- hV]
          clear hV bN bO bV gf aD cI bA bB cH aW
          go_wp2_with fail
          go_meet
          exact⟨_,_,_,_,_,HF.out⟩
       by_cases aX:k=37∨k=39
       ·obtain⟨e0,e1,e2⟩:=xhG k aB aX
        rw[cF.out]at e0
        obtain⟨lo,cS⟩:∃ lo:Int,lo=(if k=37 then 0 else 1):=⟨_,rfl⟩
        obtain⟨bG,cT⟩:∃ bG:Int,bG=(if k=37 then 99 else 12):=⟨_,rfl⟩
        rw[<- cS]at e1
        rw[<- cT]at e2
        have HG:=Lib.hid (xiM M (fun b=>qaI M ws m b (d+1)) ws HR.out.got lo bG (by show lst (k:Int).toNat=lo;rw[show ((k:Int)).toNat=k by omega];exact e1) (by show mst (k:Int).toNat=bG;rw[show ((k:Int)).toNat=k by omega];exact e2) 0)
        have cG:Hid (stepE M (fun b=>qaI M ws m b (d+1)) ws (foldE M (fun b=>qaI M ws m b (d+1)) ws ((preL k).take i) (stE (k:Int) d a c)) 35=foldE M (fun b=>qaI M ws m b (d+1)) ws (preL k) (stE (k:Int) d a c)):=by
         show _=_
         conv=>rhs;rw[e0,qiW]
         rfl
        rw[cG.out]at HG
        have aD:Hid (∀ W2 v a2 fc2 fa2,Near P w2 W2->Prs W2 P wv ws a2 (c+1) fc2 fa2->Got (foldE M (fun b=>qaI M ws m b (d+1)) ws (preL k) (stE (k:Int) d a c)) (⟨(k:Int),v,ByteArray.empty,ns,[]⟩:Nd (T m)) a2 (c+1) fc2 fa2->(fc2=0->fc1=0/\fa2=fa1)->a2<=ws.length -> -9999999999<=v/\v<=9999999999->NRel M m P X Z wv ws d a c k W6 (W2.setCell ⟨X,1,none⟩ (.int .i64 v)) (preL k) v ByteArray.empty ns [] i 0 a2 (c+1) fc2 fa2 na nc none 0):=fun W2 v a2 fc2 fa2 hn hp hg hok hal2 hv=>
         HR.out.set bC cU.out cV cW bL.out hn hp (.inl ⟨rfl,rfl,rfl⟩) hg (by omega) (fun h=>⟨(hok h).1,(hok h).2,hal2⟩) ⟨hv.1,hv.2,by decide⟩
        have bF:=Lib.hid (xgW HR.out.prs (by omega) lo bG)
        have bD:=HR.out.many.lt
        have aW:=Lib.hid HR.out.many.box
        have gD:Hid (-10<=lo/\bG<=100):=by
         refine⟨?_,?_⟩
         ·rw[cS];split <;> omega
         ·rw[cT];split <;> omega
        have cY:((k:Int)==37)=true∨(((k:Int)==37)=false/\((k:Int)==39)=true):=by
         rcases aX with h|h
         ·left;simp[h]
         ·right;simp[h]
        have e5:((k:Int)==5)=false:=by simp;omega
        have e6:((k:Int)==6)=false:=by simp;omega
        have aE:Hid (∀ v,numOf (wordD ws a1).data.toList=some v->a1+1<=ws.length):=fun v h=>by
         rcases Nat.lt_or_ge a1 ws.length with h1|h1
         ·exact h1
         ·rw[qbO (List.getElem?_eq_none h1)]at h
          have h2:=(qdP h).2
          have:=qdH (s:=⟨#[]⟩) (i:=0) (k:=v) (post:=[]) (by rw[h2];rfl)
          exact absurd this (by decide)
        have eY:Hid ((k:Int)==37->lo=0/\bG=99):=fun h=>by
         have aP:k=37:=by simp at h;omega
         rw[cS,cT,if_pos aP,if_pos aP];exact⟨rfl,rfl⟩
        have cK:Hid (((k:Int)==37)=false->lo=1/\bG=12):=fun h=>by
         have aP:¬ k=37:=by simp at h;omega
         rw[cS,cT,if_neg aP,if_neg aP];exact⟨rfl,rfl⟩
        clear aJ bX cA e0 e1 e2 cG aG HR cS cT aX aV bE bJ
        rcases cY with h5|⟨h5,h6⟩
        case' inl=>obtain⟨rfl,rfl⟩:=eY.out h5
        case' inr=>obtain⟨rfl,rfl⟩:=cK.out h5
        all_goals
         clear eY cK
         go_wp2_with fail
         refine bF.out.mono ?_
         clear bF
         rintro e w4 (⟨v,hv,hr,rfl,aM,aZ⟩|⟨hv,rfl,aM,aZ⟩)
         ·have HF:=Lib.hid (aD.out w4 v (a1+1) fc1 fa1 aM aZ (HG.out.1 v hv hr) (fun h=>⟨h,rfl⟩) (aE.out v hv) (by have:=gD.out;omega))
          have bV:=(aM.block X bD (by omega)).trans aW.out
          have y2:=(qaC bV).1.2.1
          have y2f:=(qaC bV).2 1
          clear bV aD HG aM aZ aW hv hr aE
          go_wp2_with fail
          go_meet
          exact⟨_,_,_,_,_,HF.out⟩
         ·have HF:=Lib.hid (aD.out w4 0 a1 _ _ aM aZ (HG.out.2 hv) (fun h=>absurd h (xiB fc1)) dZ (by omega))
          have bV:=(aM.block X bD (by omega)).trans aW.out
          have y2:=(qaC bV).1.2.1
          have y2f:=(qaC bV).2 1
          clear bV aD HG aM aZ aW hv aE
          go_wp2_with fail
          go_meet
          exact⟨_,_,_,_,_,HF.out⟩
       ·have HF:Hid (NRel M m P X Z wv ws d a c k W6 w2 (preL k) 0 ByteArray.empty ns [] i 0 a1 (c+1) fc1 fa1 na nc none 0):=by
         have h1:=(xhH k aB fZ).resolve_left (by omega)
         have h2:(preL k).take (nmS k)=preL k:=by
          rcases h1 with h|h|h|h|h
          ·omega
          ·omega
          ·omega
          ·omega
          ·exact h
         have h3:=HR.out
         rw[cF.out]at h2
         rw[h2]at h3
         exact h3
        have e5:((k:Int)==5)=false:=by simp;omega
        have e6:((k:Int)==6)=false:=by simp;omega
        have e37:((k:Int)==37)=false:=by simp;omega
        have e39:((k:Int)==39)=false:=by simp;omega
        clear HR aV bE bY bJ aX
        go_wp2_with fail
        go_meet
        exact⟨_,_,_,_,_,HF.out⟩
      case rest=>
       obtain⟨nm,tx,a2,fc2,fa2,bH⟩:=hcut
       have eZ:=Lib.hid bH
       have gE:c+1<=201:=by omega
       clear bH HR aG
       have dT:=Lib.hid (qiF k aB wc)
       have gF:=qvD k hk24
       have cL:Hid (∀ j (hj:j<(bs (kdT k)).size) (hj2:j<(kdV k).length),((((bs (kdT k))[j]'hj).toNat:Int)==97)=((kdV k)[j]==65)):=fun j hj hj2=>xhE k hk24 j hj hj2
       have bP:Hid ((kdV k).length<=3/\(∀ v,v∈kdV k->v=86∨v=65)/\prt k=preL k++kdV k):=⟨xhF k aB,qiL k,qiK k aB⟩
       obtain⟨kn,aX⟩:∃ kn,(kdV k).length=kn:=⟨_,rfl⟩
       obtain⟨q,hq⟩:∃ q,bs (kdT k)=q:=⟨_,rfl⟩
       have fA:=Lib.hid aX
       have HQ:=Lib.hid hq
       rw[hq,aX]at gF
       rw[hq]at dT cL
       rw[aX]at bP
       have gG:kn<=3:=bP.out.1
       clear aX hq
       go_wp2_with fail
       refine dT.out.mono ?_
       clear dT
       rintro e w8 ⟨rfl,rfl⟩
       go_wp2_with fail
       go_loopw [17] (fun iv wr=>∃ (j:Nat) (ks:List (T m)) (a3 c3:Nat) (fc3 fa3:Int) (ka:Option Addr) (kc:Nat),iv=.int .i64 (j:Int)/\j<=kn/\NRel M m P X Z wv ws d a c k W6 wr (preL k++(kdV k).take j) nm tx ns ks i j a3 c3 fc3 fa3 na nc ka kc) (fun iv _=>kn - (intOf iv).toNat)
       case atStart=>exact⟨0,[],a2,c+1,fc2,fa2,none,0,rfl,Nat.zero_le _,by rw[List.take_zero,List.append_nil];exact eZ.out⟩
       case round=>
        clear eZ
        obtain⟨j,ks,a3,c3,fc3,fa3,ka,kc,rfl,hj,bI⟩:=hrel
        have HR:=Lib.hid bI
        clear bI
        have aQ:Hid ((j=kn∨fc3≠0)->NPost M (m+1) P wv ws act d a c w (.returned (.agg #[.int .i64 (k:Int),.int .i64 nm,.string tx,.slice na i nc,.slice ka j kc])) (put5 wr Z 0 (.int .i64 (k:Int)) (.int .i64 nm) (.string tx) (.slice na i nc) (.slice ka j kc))):=fun h=>by
         refine HR.out.out fQ.out fR.out bX.out cA.out aB (by omega) (by omega) aJ.out ?_
         rcases h with h|h
         ·refine .inl ?_
          rw[h,List.take_of_length_le (by have:=fA.out;omega)]
          exact bP.out.2.2.symm
         ·refine .inr ⟨h,(kdV k).drop j,?_⟩
          rw[List.append_assoc,List.take_append_drop]
          exact bP.out.2.2
        obtain⟨⟨x0,x1,x2,x3,x4⟩,-⟩:=qaC HR.out.many.box
        obtain⟨⟨z0,z1,z2,z3,z4⟩,zf⟩:=qaC HR.out.zero
        have zf0:=zf 0
        have zf1:=zf 1
        have zf2:=zf 2
        have zf3:=zf 3
        have zf4:=zf 4
        obtain⟨⟨p0,p1,p2,p3,p4⟩,-⟩:=HR.out.prs.cells
        have gH:¬ X=Z:=by omega
        have gI:¬ Z=X:=by omega
        clear zf
        by_cases hjk:j<kn
        case neg=>
         have HP:=Lib.hid (aQ.out (.inl (by omega)))
         have gJ:¬ (j:Int)<(kn:Int):=by omega
         have gK:decide ((j:Int)<(kn:Int))=false:=by simp;omega
         clear aQ HR dM cL aJ bX bL cA bP
         go_wp2_with fail
         refine bodyPost_ret (v:=.agg #[.int .i64 (k:Int),.int .i64 nm,.string tx,.slice na i nc,.slice ka j kc]) (by simp[results,Tryz.results11,go_sem,z0,z1,z2,z3,z4]) rfl ?_
         exact HP.out
        have gJ:(j:Int)<(kn:Int):=by omega
        have gK:decide ((j:Int)<(kn:Int))=true:=by simp;omega
        by_cases hf3:fc3=0
        case neg=>
         have HP:=Lib.hid (aQ.out (.inr hf3))
         have hB:(fc3==0)=false:=by simp[hf3]
         clear aQ HR dM cL aJ bX bL cA bP hf3
         go_wp2_with fail
         refine bodyPost_ret (v:=.agg #[.int .i64 (k:Int),.int .i64 nm,.string tx,.slice na i nc,.slice ka j kc]) (by simp[results,Tryz.results11,go_sem,z0,z1,z2,z3,z4]) rfl ?_
         exact HP.out
        subst hf3
        obtain⟨eE,eF,eG,gP⟩:=HR.out.ok rfl
        subst eE
        have dA:j<(kdV k).length:=by have:=fA.out;omega
        have gL:j<q.size:=by omega
        have gM:(j:Int)<(q.size:Int):=by omega
        have hC:(0:Int)<=(j:Int):=by omega
        obtain⟨p,bR⟩:∃ p,(kdV k)[j]=p:=⟨_,rfl⟩
        have dU:=cL.out j gL dA
        rw[bR]at dU
        have fB:Hid ((p=86∨p=65)/\(kdV k)[j]?=some p):=⟨by rw[<- bR];exact bP.out.2.1 _ (List.getElem_mem dA),by rw[List.getElem?_eq_getElem dA,bR]⟩
        obtain⟨b,hb⟩:∃ b,(p==65)=b:=⟨_,rfl⟩
        rw[hb]at dU
        have HB:=Lib.hid hb
        have hD:IntKind.i64.wrap (d+1)=d+1:=by rw[IntKind.wrap_i64];omega
        have HK:=Lib.hid (dM.out P wv ws b (d+1) a3 c3 wr.drew (by omega) (by omega) (by omega) (HR.out.prs.drewN 1) eF eG)
        obtain⟨xs,eH,bJ⟩:=HR.out.many.kids
        have gN:=hidF bJ
        have HX:Hid (wr.ownsRow (X+1) 25 5 (.slice ka j kc) j xs):=by
         rw[HR.out.klE]at eH;exact eH
        have fC:=HR.out.many.lt
        obtain⟨ik0,aR,cP,cQ,cR⟩:=info_parts Tryz.info_nodeF
        have dB:Hid (_/\_/\_/\_):=⟨aR,cP,cQ,cR⟩
        clear aR cP cQ cR eH bJ bR hb aQ cL z0 z1 z2 z3 z4 zf0 zf1 zf2 zf3 zf4 x0 x1 x2 x3 p0 p1 p2 p4 dA
        go_wp2_with fail
        go_region_law (first
         | (refine step_append_lies _ (by rfl) (.tmp 167) (.tmp 176) 23 (by rfl) (X+1) 25 ik0 _ 5 80 Tryz.underlying23 dB.out.1 dB.out.2.1 dB.out.2.2.1 dB.out.2.2.2 rfl (by decide) (.slice ka j kc) j xs (by rfl) (aN _) ⟨v2.heap.size,0,none⟩ 1 1 [.int .i64 t0,.int .i64 t1,.string t2,.slice ta tl tc,.slice ua ul uc] (by rfl) rfl (World.news_of_block (heap_alloc_new v2 _)) (by simp[Value.oneCell']) (by decide) (by unfold maxLen;omega) (by omega) (by simp;omega) (v2.heap.size+1) (by simp) ?_;intro g2 cap2 v3 aF aA aS bS;have aL:=(qeE (W:=wr.drew) (X:=X) (Y:=X) HX.out fC bC (Nat.le_refl X) aC aA).trans HR.out.many.box;have x4'':v3.cell? ⟨X,4,none⟩=some (.slice ka j kc):=(by simp[World.cell?,aL]);have xg'':v3.frozen? ⟨X,4,none⟩=false:=(by simp[World.frozen?,aL]))
         | (go_simp;go_at_call 11;refine HK.out.mono ?_;rintro e v2 ⟨aC,t5,f0,f1,f2,f3,f4,a5,c5,fc5,fa5,rfl,eI,aI,gQ,gR,fH⟩;obtain⟨t0,t1,t2,ta,tl,tc,ua,ul,uc,rfl,rfl,rfl,rfl,rfl⟩:=eI.shape;have dR:wr.heap.size<=v2.heap.size:=aC.size;have aN:=fun o=>qqJ (R:=P) (Y:=X) (W:=wr.drew) HX.out bC aC o;have x4':v2.cell? ⟨X,4,none⟩=some (.slice ka j kc):=(World.cell?_of_block (aC.block X (by simpa using fC) (by omega))).trans x4;have x4a:(v2.alloc (.cells #[.int .i64 t0,.int .i64 t1,.string t2,.slice ta tl tc,.slice ua ul uc] 25)).cell? ⟨X,4,none⟩=some (.slice ka j kc):=(World.cell?_of_block (Below.heap_alloc _ _ _ (by show X<_;omega))).trans x4'))
        all_goals
         have hF:=HR.out.kid (p:=p) bC cU.out cV cW bL.out fB.out.1 aC eI aI (by rw[HB.out];exact fH) gQ gR HX.out gN.out aF aA aS
         rw[List.append_assoc,<- qtG fB.out.2]at hF
         have HF:=hidF hF
         clear hF aF aA aS bS eI aI fH aC aN x4' x4a x4'' xg'' aL x4 dU
         go_wp2_with fail
         go_roundw
         case rel=>exact⟨j+1,ks++[t5],a5,c5,fc5,fa5,some ⟨g2,0,none⟩,cap2,by go_num,by omega,HF.out⟩
         case measure=>simp[intOf];omega
end Go.Proofs.YtelogmjfekhmpaaGreatDoor
