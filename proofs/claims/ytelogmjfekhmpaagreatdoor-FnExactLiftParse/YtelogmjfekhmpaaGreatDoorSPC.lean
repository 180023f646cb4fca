import Derived.Test.YtelogmjfekhmpaaGreatDoorB33
import Derived.Deep.CutBlock
namespace Go.Proofs.YtelogmjfekhmpaaGreatDoor
set_option maxRecDepth 100000
set_option maxHeartbeats 16000000
open Go.RowKit Go.Proofs.Tryz
theorem xhJ (M m:Nat) (hM:3000<=M) (hI:NSaid M m) (P:Nat) (wv:Value) (ws:List ByteArray) (act:Bool) (d:Int) (a c:Nat) (w:World) (k:Nat) (hk:opW (wordD ws a)=k) (hk0:k≠0) (hk24:k≠24) (hact:decide ((36:Int)<=(k:Int))=act) :
  1<=d->d<=25->26<=d+((m+1:Nat):Int)->Prs w P wv ws a c 0 0->a<=ws.length->c<=200->Calls prog 11 #[.pointer (some ⟨P,0,none⟩),.bool act,.int .i64 d] w (NPost M (m+1) P wv ws act d a c w):=by
 intro hT cR hU hp ha hc
 have fE:=hp.lt
 obtain⟨Q,bQ⟩:∃Q,Q=w.alloc (.cells #[.int .i64 0,.int .i64 0,.string ⟨#[]⟩,.slice none 0 0,.slice none 0 0] 25):=⟨_,rfl⟩
 have cS:Below w.heap.size w Q:=by rw[bQ];exact (Below.refl _ _).alloc (Nat.le_refl _) _
 have fF:Q.heap.size=w.heap.size+1:=by rw[bQ];simp
 have dT:Q.heap[w.heap.size]?=some (.cells #[.int .i64 0,.int .i64 0,.string ⟨#[]⟩,.slice none 0 0,.slice none 0 0] 25 (0,0)):=by rw[bQ];exact heap_alloc_new _ _
 have cT:=hp.same cS
 have bB:=Lib.hid hp
 have cU:=Lib.hid cT
 have dU:Hid (Near P w Q):=Near.of_below cS
 have dV:=Lib.hid dT
 have hC:=hp.few
 obtain⟨⟨q0,q1,q2,q3,q4⟩,-⟩:=cT.cells
 have dW:=Lib.hid hp.short
 clear hp cS dT cT q0 q1 q2 q4
 go_enter func11,ntmps11
 go_upto_region 1 with fail
 rw[<- bQ]
 clear bQ
 go_upto_if 26 with fail
 go_cut [] from 18 to 28 (fun wx=>Near P Q wx/\Prs wx P wv ws a c (if 24<d then 3 else 0) (if 24<d then (a:Int) else 0))
 case first=>
  have H:=Lib.hid (qdB cU.out 3)
  have HE:Hid (¬24<d->Near P Q Q/\Prs Q P wv ws a c (if 24<d then 3 else 0) (if 24<d then (a:Int) else 0)):=fun h=>by rw[if_neg h,if_neg h];exact⟨Near.refl P Q,cU.out⟩
  by_cases hd:24<d
  ·clear HE
   go_wp2_with fail
   refine H.out.mono ?_
   rintro e w2 ⟨rfl,O,S⟩
   have f:Hid (Near P Q w2/\Prs w2 P wv ws a c (if 24<d then 3 else 0) (if 24<d then (a:Int) else 0)):=by rw[if_pos hd,if_pos hd];exact⟨O,S⟩
   clear O S H
   go_wp2_with fail
   go_meet
   exact f.out
  ·have f:=Lib.hid (HE.out hd)
   clear H HE
   go_wp2_with fail
   go_meet
   exact f.out
 case rest=>
  obtain⟨eV,dG⟩:=hcut
  have cV:=Lib.hid eV
  have cW:=Lib.hid dG
  obtain⟨⟨q0,q1,q2,gN,q4⟩,-⟩:=dG.cells
  clear eV dG q0 q1 gN q4 q3
  go_upto_if 33 with fail
  go_cut [] from 18 to 35 (fun wx=>Near P Q wx/\Prs wx P wv ws a c (bnd d c) (bndA d a c))
  case first=>
   have H:=Lib.hid (qdB cW.out 4)
   have HB:Hid ((200<=c->ftC (if 24<d then 3 else 0) 4=bnd d c/\ftA (if 24<d then 3 else 0) (if 24<d then (a:Int) else 0) a=bndA d a c)/\(¬200<=c->(if 24<d then 3 else 0)=bnd d c/\(if 24<d then (a:Int) else 0)=bndA d a c)):=by
    refine⟨fun h=>?_,fun h=>?_⟩
    ·unfold bnd bndA ftC ftA bnd
     by_cases hd:24<d
     ·simp only[if_pos hd];exact⟨by decide,by rw[if_neg (by decide),if_neg (by decide)]⟩
     ·simp only[if_neg hd,if_pos h];exact⟨by decide,by rw[if_pos (by decide),if_neg (by decide)]⟩
    ·unfold bnd bndA bnd
     by_cases hd:24<d
     ·simp only[if_pos hd];exact⟨trivial,by rw[if_neg (by decide)]⟩
     ·simp only[if_neg hd,if_neg h];exact⟨trivial,by rw[if_pos (by decide)]⟩
   by_cases hc2:200<=c
   ·have hD:(c:Int) ≥ 200:=by omega
    have fG:(200:Int)<=(c:Int):=by omega
    rw[(HB.out.1 hc2).1,(HB.out.1 hc2).2]at H
    clear HB
    go_wp2_with fail
    refine H.out.mono ?_
    rintro e w2 ⟨rfl,O,S⟩
    have f:Hid (Near P Q w2/\Prs w2 P wv ws a c (bnd d c) (bndA d a c)):=⟨cV.out.trans O,S⟩
    clear O S H
    go_wp2_with fail
    go_meet
    exact f.out
   ·have fG:¬(200:Int)<=(c:Int):=by omega
    have f:Hid (Near P Q wc/\Prs wc P wv ws a c (bnd d c) (bndA d a c)):=⟨cV.out,by
     have:=cW.out
     rw[(HB.out.2 hc2).1,(HB.out.2 hc2).2]at this
     exact this⟩
    clear HB H
    go_wp2_with fail
    go_meet
    exact f.out
  case rest=>
   clear q2 cW cV
   obtain⟨O,S⟩:=hcut
   obtain⟨fc,dH⟩:∃fc,bnd d c=fc:=⟨_,rfl⟩
   obtain⟨fa,dI⟩:∃fa,bndA d a c=fa:=⟨_,rfl⟩
   rw[dH,dI]at S
   have cX:=Lib.hid dH
   have cY:=Lib.hid dI
   clear dH dI
   obtain⟨⟨q0,q1,q2,q3,q4⟩,qf⟩:=S.cells
   have fH:=qf 2
   have hE:IntKind.i64.wrap ((c:Int)+1)=(c:Int)+1:=by rw[IntKind.wrap_i64];omega
   obtain⟨W3,cN⟩:∃W3,W3=wc.setCell ⟨P,2,none⟩ (.int .i64 ((c:Int)+1)):=⟨_,rfl⟩
   have dX:Near P Q W3:=by rw[cN];exact O.trans (Near.set P 2 _ _)
   have dY:Prs W3 P wv ws a (c+1) fc fa:=by rw[cN];exact S.setNo (c+1)
   have dZ:=Lib.hid dX
   have cZ:=Lib.hid dY
   clear O S dX dY qf q0 q1 q3 q4
   have HL:=Lib.hid (qfC cZ.out)
   have bC:=Lib.hid (qdO dW.out a)
   obtain⟨s,hs⟩:∃s,wordD ws a=s:=⟨_,rfl⟩
   rw[hs]at HL bC
   have HS:=Lib.hid hs
   have aE:Hid (opW s=k):=by show _=_;rw[<- hs];exact hk
   clear hs
   go_upto_region 8 with fail
   rw[<- cN]
   clear cN q2 fH
   go_upto_if 47 with (first|(go_at_call 21;refine HL.out.mono ?_;clear HL;rintro e w4 ⟨rfl,n4,rfl⟩))
   obtain⟨W4,cO⟩:∃W4,W4=W3.drewN n4:=⟨_,rfl⟩
   have J:Near P Q W4:=by rw[cO];exact qbG dZ.out n4
   have aF:Prs W4 P wv ws a (c+1) fc fa:=by rw[cO];exact cZ.out.drewN n4
   rw[<- cO]
   have bF:=Lib.hid J
   have bG:=Lib.hid aF
   have fI:=J.size
   clear J aF cO dZ cZ
   go_cut [7] from 18 to 63 (fun sv wx=>sv=.string s/\Near P Q wx/\Prs wx P wv ws a (c+1) fc fa/\(act=false->leafW M s=none/\freeB s=false))
   case first=>
    cases act with
    | true=>
     have f:Hid (Near P Q W4/\Prs W4 P wv ws a (c+1) fc fa/\(true=false->leafW M s=none/\freeB s=false)):=⟨bF.out,bG.out,fun h=>(by cases h)⟩
     clear bF bG
     go_wp2_with fail
     go_meet
     exact⟨rfl,f.out⟩
    | false=>
     have HA:=Lib.hid (qsU M hM P s bC.out W4)
     go_wp2_with fail
     refine HA.out.mono ?_
     rintro e w5 ⟨L,⟨l,hl,rfl⟩|⟨hl,hf,g,hW,hY,rfl⟩|⟨hl,hf,rfl⟩⟩
     ·exact absurd (qwI hl) (by rw[aE.out];exact hk0)
     ·exact absurd (xbL hf) (by rw[aE.out];exact hk0)
     ·have f:Hid (Near P Q (w5.alloc (.cells #[.int .i64 0,.int .i64 0,.string ⟨#[]⟩,.slice none 0 0,.slice none 0 0] 25))/\Prs (w5.alloc (.cells #[.int .i64 0,.int .i64 0,.string ⟨#[]⟩,.slice none 0 0,.slice none 0 0] 25)) P wv ws a (c+1) fc fa/\(false=false->leafW M s=none/\freeB s=false)):=
       ⟨(bF.out.trans (Near.of_below L)).trans (Near.alloc P w5 _),(bG.out.same L).same ((Below.refl _ _).alloc (Nat.le_refl _) _),fun _=>⟨hl,hf⟩⟩
      clear bF bG HA L hl hf
      go_wp2_with fail
      go_meet
      exact⟨rfl,f.out⟩
   case rest=>
    obtain⟨rfl,r,C,eW⟩:=hcut
    have fJ:=r.size
    have aG:=Lib.hid r
    have aH:=Lib.hid C
    have fK:=Lib.hid eW
    have eA:=Lib.hid (qmB s wc)
    clear r C eW bF bG fI
    have cP:Hid (Calls prog 23 #[.string s] wc fun e w'=>e=.returned (.int .i64 (k:Nat))/\Below wc.heap.size wc w'):=by
     have:=eA.out
     rw[aE.out]at this;exact this
    have z:k<44:=by have:=qwH s;rw[aE.out]at this;exact this
    have hG:((k:Int)==0)=false:=by simp;omega
    have hH:((k:Int)==24)=false:=by simp;omega
    have eB:a<ws.length:=by
     rcases Nat.lt_or_ge a ws.length with h1|h1
     ·exact h1
     ·have:=aE.out
      rw[<- HS.out,qbM (List.getElem?_eq_none h1),qpQ]at this;omega
    have U:Hid (qaI M ws (m+1) act d a c=foldE M (fun b=>qaI M ws m b (d+1)) ws (prt k) (stE (k:Int) d a c)):=xbJ M _ ws act d a c k (by rw[HS.out];exact aE.out) hk0 hact.symm
    have dA:=Lib.hid hI
    have gU:=Lib.hid hact
    have eC:=Lib.hid aE.out
    clear eA fK bC dW cU aE hk
    go_wp2_with fail
    refine cP.out.mono ?_
    rintro e w6 ⟨rfl,I⟩
    have fL:=I.size
    have dB:=aH.out.same I
    obtain⟨⟨q0,q1,q2,q3,q4⟩,qf⟩:=dB.cells
    have fM:=qf 1
    have hJ:IntKind.i64.wrap ((a:Int)+1)=(a:Int)+1:=by rw[IntKind.wrap_i64];omega
    obtain⟨W6,bR⟩:∃W6,W6=w6.setCell ⟨P,1,none⟩ (.int .i64 ((a:Int)+1)):=⟨_,rfl⟩
    obtain⟨W7,dJ⟩:∃W7,W7=(w6.setCell ⟨P,1,none⟩ (.int .i64 ((a:Int)+1))).alloc (.cells #[.int .i64 (k:Int),.int .i64 0,.string ⟨#[]⟩,.slice none 0 0,.slice none 0 0] 25):=⟨_,rfl⟩
    obtain⟨X,hX⟩:∃X,w6.heap.size=X:=⟨_,rfl⟩
    have eD:W6.heap.size=X:=by rw[bR,<- hX];simp
    have aS:Prs W6 P wv ws (a+1) (c+1) fc fa:=by rw[bR];exact dB.setAt (a+1)
    have bD:Near P Q W6:=by rw[bR];exact (aG.out.trans (Near.of_below I)).trans (Near.set P 1 w6 _)
    have dC:W6.heap[w.heap.size]?=_:=(bD.block w.heap.size (by omega) (by omega)).trans dV.out
    obtain⟨Z,hZ⟩:∃Z,Z=w.heap.size:=⟨_,rfl⟩
    rw[<- hZ]at dC
    have eE:Hid (NRel M m P X Z wv ws d a c k W6 W7 [] 0 ByteArray.empty [] [] 0 0 (a+1) (c+1) fc fa none 0 none 0):=NRel.start eD.symm (by rw[dJ,bR]) aS cX.out cY.out eB cR hc dC
    have aT:Hid (Prs W6 P wv ws (a+1) (c+1) (bnd d c) (bndA d a c)):=by rw[cX.out,cY.out];exact aS
    have bE:Hid (Near P w W6):=dU.out.trans bD
    have cF:Hid (W6.heap.size<=X):=by show _<=_;omega
    have aI:P<X:=by omega
    have cG:Z<X:=by omega
    have cH:Z≠P:=by omega
    have fN:=Lib.hid hZ
    have eF:w.heap.size<X:=by omega
    have fO:=Lib.hid eF
    clear dB qf aS bD dC aG aH cP I dU dV cX cY fJ fL eD bR
    go_upto_region 20 with fail
    rw[<- dJ]
    clear dJ q0 q1 q2 q3 q4 fM
    (try rw[hX])
    rw[<- hZ]
    clear hX hZ eF fF fE
    go_wp2_with fail
    go_loopw [12] (fun iv wr=>∃(i:Nat)(ns:List ByteArray)(y:Nat)(A F:Int)(na:Option Addr)(nc:Nat),iv=.int .i64 (i:Int)/\i<=nmS k/\y<=ws.length/\NRel M m P X Z wv ws d a c k W6 wr ((preL k).take i) 0 ByteArray.empty ns [] i 0 y (c+1) A F na nc none 0) (fun iv _=>nmS k-(intOf iv).toNat)
    case atStart=>exact⟨0,[],a+1,fc,fa,none,0,rfl,Nat.zero_le _,eB,eE.out⟩
    case round=>
     clear eE
     obtain⟨i,ns,y,A,F,na,nc,rfl,hi,dK,hrel⟩:=hrel
     have f:=Lib.hid hrel
     clear hrel
     have O:=qiD k z
     have bH:=Lib.hid (qkM k z wr)
     have K:=Lib.hid (xeH k z i)
     obtain⟨nq,dL⟩:∃nq,nmS k=nq:=⟨_,rfl⟩
     rw[dL]at bH K hi O
     have bI:=Lib.hid dL
     clear dL
     by_cases hlt:i<nq
     ·have eG:(i:Int)<(nq:Int):=by omega
      have hK:(i:Int)<=1:=by omega
      obtain⟨dM,dN,bS⟩:=K.out hlt
      obtain⟨p,aY⟩:∃p,(preL k).getD i 0=p:=⟨_,rfl⟩
      rw[aY]at dM dN bS
      have x3:wr.cell? ⟨X,3,none⟩=some (.slice na i nc):=(qaC f.out.many.box).1.2.2.2.1
      have aA:Hid (∀q,i=q+1->∃g u,na=some ⟨g,0,none⟩/\wr.cell? ⟨g,0,none⟩=some (.string u)/\ns=[u]):=fun q hq=>by
       have aU:=f.out.many.names
       rw[f.out.nlE]at aU
       have fP:i=1:=by omega
       have hl:=f.out.nlE
       rw[fP]at aU hl
       obtain⟨g,hg⟩:=qmO aU
       rw[hg]at aU
       match ns,hl,aU with
       | [u],_,aU=>exact⟨g,u,hg,by have:=qmP (q:=0) aU rfl;exact this,rfl⟩
      go_upto_if 100 with (first|(go_at_call 25;refine bH.out.mono ?_;clear bH;rintro e w2 ⟨rfl,rfl⟩))
      go_cut [12,13] from 93 to 114 (fun iv uv wx=>iv=.int .i64 (i:Int)/\w2=wx/\∃un,uv=.string un/\((i=0/\un=⟨#[]⟩)∨(i=1/\ns=[un])))
      case first=>
       clear f U aT bE K bB
       rcases Nat.eq_zero_or_pos i with dO|dO
       ·subst dO
        go_wp2_with fail
        go_meet
        exact⟨by first|rfl|trivial,by first|rfl|trivial,_,rfl,.inl ⟨by first|rfl|trivial,by first|rfl|trivial⟩⟩
       ·obtain⟨g,u,rfl,iA,eX⟩:=aA.out (i-1) (by omega)
        have hL:(0:Int)<(i:Int):=by omega
        have fQ:Hid (i=1):=by show _=_;omega
        have hN:0<i:=dO
        have fR:=Lib.hid eX
        clear aA eX
        go_wp2_with fail
        go_meet
        exact⟨by first|rfl|trivial,by first|rfl|trivial,_,rfl,.inr ⟨fQ.out,fR.out⟩⟩
      case rest=>
       obtain⟨rfl,rfl,un,rfl,eY⟩:=hcut
       have fS:=Lib.hid eY
       have fT:=Lib.hid dN
       have fU:=Lib.hid dM
       have eH:=Lib.hid bS
       have aJ:=f.out.many.lt
       have fV:Hid (∀W,Calls prog 27 #[.int .i64 (k:Int)] W fun e w'=>e=.returned (.bool (bdS k))/\w'=W):=fun W=>qkN k z W
       have HK:=Lib.hid (xeI (f.out.prs.drewN 1) (by omega) (bdS k) un)
       have HO:Hid (w2.ownsRow (X+1) 9 1 (.slice na i nc) i (ns.map .string)):=by
        have:=f.out.many.names
        rw[f.out.nlE]at this;exact this
       obtain⟨gO,aO,bT,bU,bW⟩:=info_parts Tryz.info_strF
       have cI:Hid (_/\_/\_/\_):=⟨aO,bT,bU,bW⟩
       clear aO bT bU bW eY dN dM bS aY aA K
       generalize bdS k=fr at *
       go_wp2_with fail
       go_region_law (first
        | (refine step_append_lies _ (by rfl) (.tmp 106) (.tmp 112) 22 (by rfl) (X+1) 9 gO _ 1 16 underlying22 cI.out.1 cI.out.2.1 cI.out.2.2.1 cI.out.2.2.2 rfl (by decide) (.slice na i nc) i (ns.map .string) (by rfl) (aK _) ⟨v2.heap.size,0,none⟩ 1 1 [.string x5] (by rfl) rfl (World.news_of_block (heap_alloc_new v2 _)) (by simp[Value.oneCell']) (by decide) (by unfold maxLen;omega) (by omega) (by simp;omega) (v2.heap.size+1) (by simp) ?_;intro g2 bX v3 N t aP bY;have I:=(qeB (W:=w2.drew) (X:=X) (Y:=X) HO.out aJ aI (Nat.le_refl X) r t).trans f.out.many.box;have eI:v3.cell? ⟨X,3,none⟩=some (.slice na i nc):=(by simp[World.cell?,I]);have bJ:v3.frozen? ⟨X,3,none⟩=false:=(by simp[World.frozen?,I]))
        | (go_simp;go_at_call 27;refine (fV.out _).mono ?_;rintro e vb ⟨rfl,rfl⟩)
        | (go_simp;go_at_call 26;refine HK.out.mono ?_;rintro e v2 ⟨x5,a5,dP,dQ,rfl,gP,bZ,r,C⟩;have eJ:w2.heap.size<=v2.heap.size:=r.size;have aK:=fun o=>qqJ (R:=P) (Y:=X) (W:=w2.drew) HO.out aI r o;have eK:v2.cell? ⟨X,3,none⟩=some (.slice na i nc):=(World.cell?_of_block (r.block X (by simpa using aJ) (by omega))).trans x3;have fW:(v2.alloc (.cells #[.string x5] 9)).cell? ⟨X,3,none⟩=some (.slice na i nc):=(World.cell?_of_block (Below.heap_alloc _ _ _ (by show X<_;omega))).trans eK))
       all_goals
        have eL:Near P w2 v2:=(qbG (Near.refl P w2) 1).trans r
        have HF:=Lib.hid (f.out.name (Wa:=v2.alloc (.cells #[.string x5] 9)) dK aI cF.out cG cH cR fU.out fT.out (fun _=>by
         rcases fS.out with ⟨e1,e2⟩|⟨e1,e2⟩
         ·refine .inl ⟨?_,e2⟩
          have:=f.out.nlE
          exact List.eq_nil_of_length_eq_zero (by omega)
         ·exact .inr ⟨e2,(eH.out.resolve_left (by omega)).2⟩) bZ gP eL C rfl aT.out N t aP)
        have eM:=qxB bZ dK
        clear N t aP bY C r aK eK fW eI bJ I eL bZ x3
        go_wp2_with fail
        go_roundw
        case rel=>exact⟨i+1,ns++[x5],a5,dP,dQ,some ⟨g2,0,none⟩,bX,by go_num,by have:=bI.out;omega,eM,HF.out⟩
        case measure=>have:=bI.out;simp[intOf];omega
     ·have eG:¬(i:Int)<(nq:Int):=by omega
      obtain rfl:i=nq:=by omega
      go_upto_block 2 with (first|(go_at_call 25;refine bH.out.mono ?_;clear bH;rintro e w2 ⟨rfl,rfl⟩))
      go_cut [] from 93 to 149 (fun wx=>∃(nm:Int)(tx:ByteArray)(a2:Nat)(D E:Int),NRel M m P X Z wv ws d a c k W6 wx (preL k) nm tx ns [] i 0 a2 (c+1) D E na nc none 0)
      case first=>
       have aB:Hid (∀W,Calls prog 28 #[.string (wordD ws y)] W fun e w'=>Below W.heap.size W w' /\ ∃(s0:Int)(b1 b2:Option Addr)(l1 l2 k1 k2:Nat),e=.returned (.tuple #[.agg #[.int .i64 s0,.slice b1 l1 k1,.slice b2 l2 k2],.bool (kindB (wordD ws y))])):=fun W=>qvE _ (qdO f.out.prs.short y) W
       have aL:Hid (∀W,(∃fc9 fa9,Prs W P wv ws y (c+1) fc9 fa9)->Calls prog 21 #[.pointer (some ⟨P,0,none⟩)] W fun e w'=>e=.returned (.string (wordD ws y))/\∃n,w'=W.drewN n):=fun W h=>by obtain⟨_,_,h⟩:=h;exact qfC h
       have bC:=Lib.hid (qdO f.out.prs.short y)
       have fX:5<=k:=by
        have:=qpP (s:=s) (by rw[eC.out];exact hk0)
        rw[eC.out]at this;exact this.2.1
       by_cases aR:k=5∨k=6
       ·obtain⟨e0,e1⟩:=xeJ k z aR
        have fY:Hid (i=0):=by show _=_;have:=bI.out;omega
        have HG:=Lib.hid (xgB M (fun b=>qaI M ws m b (d+1)) ws f.out.got (wordD ws y))
        have bK:Hid (stepE M (fun b=>qaI M ws m b (d+1)) ws (foldE M (fun b=>qaI M ws m b (d+1)) ws ((preL k).take i) (stE (k:Int) d a c)) 75=foldE M (fun b=>qaI M ws m b (d+1)) ws (preL k) (stE (k:Int) d a c)):=by
         show _=_
         rw[fY.out,e1];rfl
        rw[bK.out]at HG
        have B:Hid (∀W2 D E,Near P w2 W2->Prs W2 P wv ws y (c+1) D E->Got (foldE M (fun b=>qaI M ws m b (d+1)) ws (preL k) (stE (k:Int) d a c)) (⟨(k:Int),0,wordD ws y,ns,[]⟩:Nd (T m)) (y+1) (c+1) D E->(D=0->A=0/\E=F/\y+1<=ws.length)->NRel M m P X Z wv ws d a c k W6 ((W2.setCell ⟨X,2,none⟩ (.string (wordD ws y))).setCell ⟨P,1,none⟩ (.int .i64 ((y+1:Nat):Int))) (preL k) 0 (wordD ws y) ns [] i 0 (y+1) (c+1) D E na nc none 0):=fun W2 D E hn hp hg hok=>
         f.out.set2 aI cF.out cG cH aT.out hn hp (.inr ⟨rfl,rfl,rfl⟩) hg (by omega) hok ⟨by omega,by omega,bC.out⟩
        have G:Hid (kindB (wordD ws y)=true->y+1<=ws.length):=fun h=>by
         rcases Nat.lt_or_ge y ws.length with h1|h1
         ·exact h1
         ·rw[qbM (List.getElem?_eq_none h1),qrT]at h;cases h
        have bL:=Lib.hid f.out.prs
        have H:Hid (∀W,Near P w2 W->Prs W P wv ws y (c+1) A F->Calls prog 12 #[.pointer (some ⟨P,0,none⟩),.int .i64 2] W fun e w'=>e=.returned (.tuple #[])/\Near P w2 w' /\ Prs w' P wv ws y (c+1) (ftC A 2) (ftA A F y)):=fun W hn hp=>by
         refine (qdB hp 2).mono ?_
         rintro e w' ⟨rfl,h1,h2⟩
         exact⟨rfl,hn.trans h1,h2⟩
        have aJ:=f.out.many.lt
        have aC:=Lib.hid f.out.many.box
        have gV:IntKind.i64.wrap ((y:Int)+1)=(y:Int)+1:=by rw[IntKind.wrap_i64];omega
        obtain⟨x,hx⟩:∃x,wordD ws y=x:=⟨_,rfl⟩
        rw[hx]at aB aL HG B G
        clear U bB bE e0 e1 bK K hx f
        have cJ:((k:Int)==5)=true∨(((k:Int)==5)=false/\((k:Int)==6)=true):=by
         rcases aR with h|h
         ·left;simp[h]
         ·right;simp[h]
        clear aR
        have cK:=Lib.hid (aL.out w2 ⟨_,_,bL.out⟩)
        cases hkb:kindB x with
        | true=>
         rw[hkb]at aB
         have bM:=Lib.hid (HG.out.1 hkb)
         have fZ:=Lib.hid (G.out hkb)
         clear HG G hkb H
         rcases cJ with h5|⟨h5,h6⟩
         all_goals
          go_wp2_with fail
          refine cK.out.mono ?_
          clear cK
          rintro e w3 ⟨rfl,n3,rfl⟩
          go_wp2_with fail
          refine (aB.out _).mono ?_
          clear aB
          rintro e w4 ⟨aZ,s0,b1,b2,l1,l2,k1,k2,rfl⟩
          obtain⟨W5,bA⟩:∃W5,W5=w4.alloc (.cells #[.int .i64 s0,.slice b1 l1 k1,.slice b2 l2 k2] 55):=⟨_,rfl⟩
          have L:Below w4.heap.size w4 W5:=by rw[bA];exact (Below.refl _ _).alloc (Nat.le_refl _) _
          have r:Near P w2 W5:=((qbG (Near.refl P w2) n3).trans (Near.of_below aZ)).trans (Near.of_below L)
          have C:Prs W5 P wv ws y (c+1) A F:=((bL.out.drewN n3).same aZ).same L
          have bN:=Lib.hid (aL.out W5 ⟨_,_,C⟩)
          have aG:=Lib.hid r
          have aH:=Lib.hid C
          clear aZ L r C aL
          go_upto_region 35 with fail
          rw[<- bA]
          clear bA
          go_wp2_with fail
          refine bN.out.mono ?_
          clear bN
          rintro e gQ ⟨rfl,n6,rfl⟩
          obtain⟨V,hV⟩:∃V,V=W5.drewN n6:=⟨_,rfl⟩
          have aV:Near P w2 V:=by rw[hV];exact qbG aG.out n6
          have aW:Prs V P wv ws y (c+1) A F:=by rw[hV];exact aH.out.drewN n6
          have HF:=Lib.hid (B.out V A F aV aW bM.out (fun h=>⟨h,rfl,fZ.out⟩))
          have bV:=(aV.block X aJ (by omega)).trans aC.out
          have y2:=(qaC bV).1.2.2.1
          have dD:=(qaC bV).2 2
          obtain⟨⟨g0,g1,g2,g3,g4⟩,gf⟩:=aW.cells
          have gA:=gf 1
          rw[<- hV]
          clear hV aV aW bV gf B bM aG aH bL aC
          go_wp2_with fail
          go_meet
          exact⟨_,_,_,_,_,HF.out⟩
        | false=>
         rw[hkb]at aB
         have bM:=Lib.hid (HG.out.2 hkb)
         clear HG G hkb
         rcases cJ with h5|⟨h5,h6⟩
         all_goals
          go_wp2_with fail
          refine cK.out.mono ?_
          clear cK
          rintro e w3 ⟨rfl,n3,rfl⟩
          go_wp2_with fail
          refine (aB.out _).mono ?_
          clear aB
          rintro e w4 ⟨aZ,s0,b1,b2,l1,l2,k1,k2,rfl⟩
          obtain⟨W5,bA⟩:∃W5,W5=w4.alloc (.cells #[.int .i64 s0,.slice b1 l1 k1,.slice b2 l2 k2] 55):=⟨_,rfl⟩
          have L:Below w4.heap.size w4 W5:=by rw[bA];exact (Below.refl _ _).alloc (Nat.le_refl _) _
          have r:Near P w2 W5:=((qbG (Near.refl P w2) n3).trans (Near.of_below aZ)).trans (Near.of_below L)
          have C:Prs W5 P wv ws y (c+1) A F:=((bL.out.drewN n3).same aZ).same L
          have eN:=Lib.hid (H.out W5 r C)
          clear aZ L r C H
          go_upto_region 34 with fail
          rw[<- bA]
          clear bA
          go_wp2_with fail
          refine eN.out.mono ?_
          clear eN
          rintro e w7 ⟨rfl,bD,aS⟩
          have bN:=Lib.hid (aL.out w7 ⟨_,_,aS⟩)
          have aG:=Lib.hid bD
          have aH:=Lib.hid aS
          clear bD aS aL
          go_wp2_with fail
          refine bN.out.mono ?_
          clear bN
          rintro e gQ ⟨rfl,n6,rfl⟩
          obtain⟨V,hV⟩:∃V,V=w7.drewN n6:=⟨_,rfl⟩
          have aV:Near P w2 V:=by rw[hV];exact qbG aG.out n6
          have aW:Prs V P wv ws y (c+1) (ftC A 2) (ftA A F y):=by rw[hV];exact aH.out.drewN n6
          have HF:=Lib.hid (B.out V _ _ aV aW bM.out (fun h=>absurd h (xiC A)))
          have bV:=(aV.block X aJ (by omega)).trans aC.out
          have y2:=(qaC bV).1.2.2.1
          have dD:=(qaC bV).2 2
          obtain⟨⟨g0,g1,g2,g3,g4⟩,gf⟩:=aW.cells
          have gA:=gf 1
          rw[<- hV]
          clear hV aV aW bV gf B bM aG aH bL aC
          go_wp2_with fail
          go_meet
          exact⟨_,_,_,_,_,HF.out⟩
       by_cases aD:k=37∨k=39
       ·obtain⟨e0,e1,e2⟩:=xhH k z aD
        rw[bI.out]at e0
        obtain⟨lo,cA⟩:∃lo:Int,lo=(if k=37 then 0 else 1):=⟨_,rfl⟩
        obtain⟨aQ,cB⟩:∃aQ:Int,aQ=(if k=37 then 99 else 12):=⟨_,rfl⟩
        rw[<- cA]at e1
        rw[<- cB]at e2
        have HG:=Lib.hid (xiN M (fun b=>qaI M ws m b (d+1)) ws f.out.got lo aQ (by show lst (k:Int).toNat=lo;rw[show ((k:Int)).toNat=k by omega];exact e1) (by show mst (k:Int).toNat=aQ;rw[show ((k:Int)).toNat=k by omega];exact e2) 0)
        have bK:Hid (stepE M (fun b=>qaI M ws m b (d+1)) ws (foldE M (fun b=>qaI M ws m b (d+1)) ws ((preL k).take i) (stE (k:Int) d a c)) 35=foldE M (fun b=>qaI M ws m b (d+1)) ws (preL k) (stE (k:Int) d a c)):=by
         show _=_
         conv=>rhs;rw[e0,qiS]
         rfl
        rw[bK.out]at HG
        have B:Hid (∀W2 v a2 D E,Near P w2 W2->Prs W2 P wv ws a2 (c+1) D E->Got (foldE M (fun b=>qaI M ws m b (d+1)) ws (preL k) (stE (k:Int) d a c)) (⟨(k:Int),v,ByteArray.empty,ns,[]⟩:Nd (T m)) a2 (c+1) D E->(D=0->A=0/\E=F)->a2<=ws.length -> -9999999999<=v/\v<=9999999999->NRel M m P X Z wv ws d a c k W6 (W2.setCell ⟨X,1,none⟩ (.int .i64 v)) (preL k) v ByteArray.empty ns [] i 0 a2 (c+1) D E na nc none 0):=fun W2 v a2 D E hn hp hg hok hal2 hv=>
         f.out.set aI cF.out cG cH aT.out hn hp (.inl ⟨rfl,rfl,rfl⟩) hg (by omega) (fun h=>⟨(hok h).1,(hok h).2,hal2⟩) ⟨hv.1,hv.2,by decide⟩
        have bO:=Lib.hid (xgX f.out.prs (by omega) lo aQ)
        have aJ:=f.out.many.lt
        have aC:=Lib.hid f.out.many.box
        have gB:Hid (-10<=lo/\aQ<=100):=by
         refine⟨?_,?_⟩
         ·rw[cA];split<;>omega
         ·rw[cB];split<;>omega
        have cJ:((k:Int)==37)=true∨(((k:Int)==37)=false/\((k:Int)==39)=true):=by
         rcases aD with h|h
         ·left;simp[h]
         ·right;simp[h]
        have e5:((k:Int)==5)=false:=by simp;omega
        have e6:((k:Int)==6)=false:=by simp;omega
        have G:Hid (∀v,numOf (wordD ws y).data.toList=some v->y+1<=ws.length):=fun v h=>by
         rcases Nat.lt_or_ge y ws.length with h1|h1
         ·exact h1
         ·rw[qbM (List.getElem?_eq_none h1)]at h
          have h2:=(qdN h).2
          have:=qdE (s:=⟨#[]⟩) (i:=0) (k:=v) (post:=[]) (by rw[h2];rfl)
          exact absurd this (by decide)
        have eO:Hid ((k:Int)==37->lo=0/\aQ=99):=fun h=>by
         have aM:k=37:=by simp at h;omega
         rw[cA,cB,if_pos aM,if_pos aM];exact⟨rfl,rfl⟩
        have cQ:Hid (((k:Int)==37)=false->lo=1/\aQ=12):=fun h=>by
         have aM:¬k=37:=by simp at h;omega
         rw[cA,cB,if_neg aM,if_neg aM];exact⟨rfl,rfl⟩
        clear U bB bE e0 e1 e2 bK K f cA cB aD aB aL aR
        rcases cJ with h5|⟨h5,h6⟩
        case' inl=>obtain⟨rfl,rfl⟩:=eO.out h5
        case' inr=>obtain⟨rfl,rfl⟩:=cQ.out h5
        all_goals
         clear eO cQ
         go_wp2_with fail
         refine bO.out.mono ?_
         clear bO
         rintro e w4 (⟨v,hv,hr,rfl,J,aF⟩|⟨hv,rfl,J,aF⟩)
         ·have HF:=Lib.hid (B.out w4 v (y+1) A F J aF (HG.out.1 v hv hr) (fun h=>⟨h,rfl⟩) (G.out v hv) (by have:=gB.out;omega))
          have bV:=(J.block X aJ (by omega)).trans aC.out
          have y2:=(qaC bV).1.2.1
          have dD:=(qaC bV).2 1
          clear bV B HG J aF aC hv hr G
          go_wp2_with fail
          go_meet
          exact⟨_,_,_,_,_,HF.out⟩
         ·have HF:=Lib.hid (B.out w4 0 y _ _ J aF (HG.out.2 hv) (fun h=>absurd h (xiC A)) dK (by omega))
          have bV:=(J.block X aJ (by omega)).trans aC.out
          have y2:=(qaC bV).1.2.1
          have dD:=(qaC bV).2 1
          clear bV B HG J aF aC hv G
          go_wp2_with fail
          go_meet
          exact⟨_,_,_,_,_,HF.out⟩
       ·have HF:Hid (NRel M m P X Z wv ws d a c k W6 w2 (preL k) 0 ByteArray.empty ns [] i 0 y (c+1) A F na nc none 0):=by
         have h1:=(xhI k z fX).resolve_left (by omega)
         have h2:(preL k).take (nmS k)=preL k:=by
          rcases h1 with h|h|h|h|h
          ·omega
          ·omega
          ·omega
          ·omega
          ·exact h
         have h3:=f.out
         rw[bI.out]at h2
         rw[h2]at h3
         exact h3
        have e5:((k:Int)==5)=false:=by simp;omega
        have e6:((k:Int)==6)=false:=by simp;omega
        have hO:((k:Int)==37)=false:=by simp;omega
        have hP:((k:Int)==39)=false:=by simp;omega
        clear f aB aL bC aR aD
        go_wp2_with fail
        go_meet
        exact⟨_,_,_,_,_,HF.out⟩
      case rest=>
       obtain⟨nm,tx,a2,D,E,cC⟩:=hcut
       have eP:=Lib.hid cC
       have gW:c+1<=201:=by omega
       clear cC f K
       have dE:=Lib.hid (qiC k z wc)
       have gC:=qvC k hk24
       have bP:Hid (∀j (hj:j<(bs (kdT k)).size) (hj2:j<(kdV k).length),((((bs (kdT k))[j]'hj).toNat:Int)==97)=((kdV k)[j]==65)):=fun j hj hj2=>xhF k hk24 j hj hj2
       have aX:Hid ((kdV k).length<=3/\(∀v,v∈kdV k->v=86∨v=65)/\prt k=preL k++kdV k):=⟨xhG k z,qiI k,qiH k z⟩
       obtain⟨kn,aD⟩:∃kn,(kdV k).length=kn:=⟨_,rfl⟩
       obtain⟨q,hq⟩:∃q,bs (kdT k)=q:=⟨_,rfl⟩
       have eQ:=Lib.hid aD
       have HQ:=Lib.hid hq
       rw[hq,aD]at gC
       rw[hq]at dE bP
       rw[aD]at aX
       have gX:kn<=3:=aX.out.1
       clear aD hq
       go_wp2_with fail
       refine dE.out.mono ?_
       clear dE
       rintro e w8 ⟨rfl,rfl⟩
       go_wp2_with fail
       go_loopw [17] (fun iv wr=>∃(j:Nat)(ks:List (T m))(a3 c3:Nat)(cD eZ:Int)(ka:Option Addr)(kc:Nat),iv=.int .i64 (j:Int)/\j<=kn/\NRel M m P X Z wv ws d a c k W6 wr (preL k++(kdV k).take j) nm tx ns ks i j a3 c3 cD eZ na nc ka kc) (fun iv _=>kn-(intOf iv).toNat)
       case atStart=>exact⟨0,[],a2,c+1,D,E,none,0,rfl,Nat.zero_le _,by rw[List.take_zero,List.append_nil];exact eP.out⟩
       case round=>
        clear eP
        obtain⟨j,ks,a3,c3,cD,eZ,ka,kc,rfl,hj,cE⟩:=hrel
        have f:=Lib.hid cE
        clear cE
        have aN:Hid ((j=kn∨cD≠0)->NPost M (m+1) P wv ws act d a c w (.returned (.agg #[.int .i64 (k:Int),.int .i64 nm,.string tx,.slice na i nc,.slice ka j kc])) (put5 wr Z 0 (.int .i64 (k:Int)) (.int .i64 nm) (.string tx) (.slice na i nc) (.slice ka j kc))):=fun h=>by
         refine f.out.out fN.out fO.out bB.out bE.out z (by omega) (by omega) U.out ?_
         rcases h with h|h
         ·refine .inl ?_
          rw[h,List.take_of_length_le (by have:=eQ.out;omega)]
          exact aX.out.2.2.symm
         ·refine .inr ⟨h,(kdV k).drop j,?_⟩
          rw[List.append_assoc,List.take_append_drop]
          exact aX.out.2.2
        obtain⟨⟨x0,x1,x2,x3,x4⟩,-⟩:=qaC f.out.many.box
        obtain⟨⟨z0,z1,z2,z3,z4⟩,zf⟩:=qaC f.out.zero
        have gD:=zf 0
        have gE:=zf 1
        have gF:=zf 2
        have gG:=zf 3
        have gH:=zf 4
        obtain⟨⟨p0,p1,p2,p3,p4⟩,-⟩:=f.out.prs.cells
        have gY:¬X=Z:=by omega
        have gZ:¬Z=X:=by omega
        clear zf
        by_cases hjk:j<kn
        case neg=>
         have HP:=Lib.hid (aN.out (.inl (by omega)))
         have gI:¬(j:Int)<(kn:Int):=by omega
         have gJ:decide ((j:Int)<(kn:Int))=false:=by simp;omega
         clear aN f dA bP U bB aT bE aX
         go_wp2_with fail
         refine bodyPost_ret (v:=.agg #[.int .i64 (k:Int),.int .i64 nm,.string tx,.slice na i nc,.slice ka j kc]) (by simp[results,results11,go_sem,z0,z1,z2,z3,z4]) rfl ?_
         exact HP.out
        have gI:(j:Int)<(kn:Int):=by omega
        have gJ:decide ((j:Int)<(kn:Int))=true:=by simp;omega
        by_cases hf3:cD=0
        case neg=>
         have HP:=Lib.hid (aN.out (.inr hf3))
         have hQ:(cD==0)=false:=by simp[hf3]
         clear aN f dA bP U bB aT bE aX hf3
         go_wp2_with fail
         refine bodyPost_ret (v:=.agg #[.int .i64 (k:Int),.int .i64 nm,.string tx,.slice na i nc,.slice ka j kc]) (by simp[results,results11,go_sem,z0,z1,z2,z3,z4]) rfl ?_
         exact HP.out
        subst hf3
        obtain⟨fA,fB,fC,hB⟩:=f.out.ok rfl
        subst fA
        have cL:j<(kdV k).length:=by have:=eQ.out;omega
        have gK:j<q.size:=by omega
        have hA:(j:Int)<(q.size:Int):=by omega
        have hR:(0:Int)<=(j:Int):=by omega
        obtain⟨p,aY⟩:∃p,(kdV k)[j]=p:=⟨_,rfl⟩
        have dF:=bP.out j gK cL
        rw[aY]at dF
        have eR:Hid ((p=86∨p=65)/\(kdV k)[j]?=some p):=⟨by rw[<- aY];exact aX.out.2.1 _ (List.getElem_mem cL),by rw[List.getElem?_eq_getElem cL,aY]⟩
        obtain⟨b,hb⟩:∃b,(p==65)=b:=⟨_,rfl⟩
        rw[hb]at dF
        have HB:=Lib.hid hb
        have hS:IntKind.i64.wrap (d+1)=d+1:=by rw[IntKind.wrap_i64];omega
        have HK:=Lib.hid (dA.out P wv ws b (d+1) a3 c3 wr.drew (by omega) (by omega) (by omega) (f.out.prs.drewN 1) fB fC)
        obtain⟨xs,dR,aR⟩:=f.out.many.kids
        have gL:=hidF aR
        have HX:Hid (wr.ownsRow (X+1) 25 5 (.slice ka j kc) j xs):=by
         rw[f.out.klE]at dR;exact dR
        have eS:=f.out.many.lt
        obtain⟨gR,aO,bT,bU,bW⟩:=info_parts Tryz.info_nodeF
        have cM:Hid (_/\_/\_/\_):=⟨aO,bT,bU,bW⟩
        clear aO bT bU bW dR aR aY hb aN bP z0 z1 z2 z3 z4 gD gE gF gG gH x0 x1 x2 x3 p0 p1 p2 p4 cL
        go_wp2_with fail
        go_region_law (first
         | (refine step_append_lies _ (by rfl) (.tmp 167) (.tmp 176) 23 (by rfl) (X+1) 25 gR _ 5 80 underlying23 cM.out.1 cM.out.2.1 cM.out.2.2.1 cM.out.2.2.2 rfl (by decide) (.slice ka j kc) j xs (by rfl) (aK _) ⟨v2.heap.size,0,none⟩ 1 1 [.int .i64 t0,.int .i64 t1,.string t2,.slice ta tl tc,.slice ua ul uc] (by rfl) rfl (World.news_of_block (heap_alloc_new v2 _)) (by simp[Value.oneCell']) (by decide) (by unfold maxLen;omega) (by omega) (by simp;omega) (v2.heap.size+1) (by simp) ?_;intro g2 bX v3 N t aP bY;have I:=(qeB (W:=wr.drew) (X:=X) (Y:=X) HX.out eS aI (Nat.le_refl X) r t).trans f.out.many.box;have eT:v3.cell? ⟨X,4,none⟩=some (.slice ka j kc):=(by simp[World.cell?,I]);have bJ:v3.frozen? ⟨X,4,none⟩=false:=(by simp[World.frozen?,I]))
         | (go_simp;go_at_call 11;refine HK.out.mono ?_;rintro e v2 ⟨r,t5,f0,f1,f2,f3,f4,a5,c5,dP,dQ,rfl,dS,C,gS,gT,fD⟩;obtain⟨t0,t1,t2,ta,tl,tc,ua,ul,uc,rfl,rfl,rfl,rfl,rfl⟩:=dS.shape;have eJ:wr.heap.size<=v2.heap.size:=r.size;have aK:=fun o=>qqJ (R:=P) (Y:=X) (W:=wr.drew) HX.out aI r o;have eU:v2.cell? ⟨X,4,none⟩=some (.slice ka j kc):=(World.cell?_of_block (r.block X (by simpa using eS) (by omega))).trans x4;have gM:(v2.alloc (.cells #[.int .i64 t0,.int .i64 t1,.string t2,.slice ta tl tc,.slice ua ul uc] 25)).cell? ⟨X,4,none⟩=some (.slice ka j kc):=(World.cell?_of_block (Below.heap_alloc _ _ _ (by show X<_;omega))).trans eU))
        all_goals
         have hF:=f.out.kid (p:=p) aI cF.out cG cH aT.out eR.out.1 r dS C (by rw[HB.out];exact fD) gS gT HX.out gL.out N t aP
         rw[List.append_assoc,<- qtG eR.out.2]at hF
         have HF:=hidF hF
         clear hF N t aP bY dS C fD r aK eU gM eT bJ I x4 dF
         go_wp2_with fail
         go_roundw
         case rel=>exact⟨j+1,ks++[t5],a5,c5,dP,dQ,some ⟨g2,0,none⟩,bX,by go_num,by omega,HF.out⟩
         case measure=>simp[intOf];omega
end Go.Proofs.YtelogmjfekhmpaaGreatDoor
