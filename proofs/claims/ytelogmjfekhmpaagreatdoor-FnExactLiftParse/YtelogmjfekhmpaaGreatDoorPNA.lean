import Derived.Test.YtelogmjfekhmpaaGreatDoorB25
import Derived.Test.YtelogmjfekhmpaaGreatDoorB31
namespace Go.Proofs.YtelogmjfekhmpaaGreatDoor
set_option maxRecDepth 100000
set_option maxHeartbeats 16000000
open Go.RowKit Go.Proofs.Tryz
theorem xjX{α:Type}{M:Nat}{rk:Bool->Nat->Nat->Rd3 α}{ws:List ByteArray}{act:Bool}{d:Int}{a c:Nat}(h:24<d):bodyR M rk ws act d a c=.error (3,a):=by
 unfold bodyR;rw[if_pos h]
theorem qzU{M m:Nat}{ws:List ByteArray}{act:Bool}{d:Int}{a c:Nat}(h:24<d):qaI M ws (m+1) act d a c=.error (3,a):=xjX h
theorem xjY{α:Type}{M:Nat}{rk:Bool->Nat->Nat->Rd3 α}{ws:List ByteArray}{act:Bool}{d:Int}{a c:Nat}(h:¬24<d)(h2:200<=c):bodyR M rk ws act d a c=.error (4,a):=by
 unfold bodyR;rw[if_neg h,if_pos h2]
theorem qzV{M m:Nat}{ws:List ByteArray}{act:Bool}{d:Int}{a c:Nat}(h:¬24<d)(h2:200<=c):qaI M ws (m+1) act d a c=.error (4,a):=xjY h h2
theorem xjZ{α:Type}{M:Nat}{rk:Bool->Nat->Nat->Rd3 α}{ws:List ByteArray}{act:Bool}{d:Int}{a c:Nat}(h:¬24<d)(h2:¬200<=c)(h3:¬a<ws.length):bodyR M rk ws act d a c=.error (2,a):=by
 unfold bodyR;rw[if_neg h,if_neg h2,List.getElem?_eq_none (by omega)]
theorem qzW{M m:Nat}{ws:List ByteArray}{act:Bool}{d:Int}{a c:Nat}(h:¬24<d)(h2:¬200<=c)(h3:¬a<ws.length):qaI M ws (m+1) act d a c=.error (2,a):=xjZ h h2 h3
theorem bR_bad{α:Type}{M:Nat}{rk:Bool->Nat->Nat->Rd3 α}{ws:List ByteArray}{act:Bool}{d:Int}{a c:Nat}(h:¬24<d)(h2:¬200<=c)(h3:a<ws.length)(h4:¬poF (opA M ws[a]:Int)=actI act):bodyR M rk ws act d a c=.error (2,a):=by
 unfold actI at h4;unfold bodyR;rw[if_neg h,if_neg h2,List.getElem?_eq_getElem h3];dsimp only;rw[if_neg h4]
theorem xfB{M m:Nat}{ws:List ByteArray}{act:Bool}{d:Int}{a c:Nat}(h:¬24<d)(h2:¬200<=c)(h3:a<ws.length)(h4:¬poF (opA M ws[a]:Int)=actI act):qaI M ws (m+1) act d a c=.error (2,a):=bR_bad h h2 h3 h4
theorem bR_yes{α:Type}{M:Nat}{rk:Bool->Nat->Nat->Rd3 α}{ws:List ByteArray}{act:Bool}{d:Int}{a c:Nat}(h:¬24<d)(h2:¬200<=c)(h3:a<ws.length)(h4:poF (opA M ws[a]:Int)=actI act):bodyR M rk ws act d a c=qcN M rk ws (prt (opA M ws[a])) ⟨(opA M ws[a]:Int),0,ByteArray.empty,[],[]⟩ (if opA M ws[a]<=4 then a else a+1) (c+1):=by
 unfold actI at h4;unfold bodyR;rw[if_neg h,if_neg h2,List.getElem?_eq_getElem h3];dsimp only;rw[if_pos h4]
theorem xfC{M m:Nat}{ws:List ByteArray}{act:Bool}{d:Int}{a c:Nat}(h:¬24<d)(h2:¬200<=c)(h3:a<ws.length)(h4:poF (opA M ws[a]:Int)=actI act):qaI M ws (m+1) act d a c=qcN M (fun b=>qaI M ws m b (d+1)) ws (prt (opA M ws[a])) ⟨(opA M ws[a]:Int),0,ByteArray.empty,[],[]⟩ (if opA M ws[a]<=4 then a else a+1) (c+1):=bR_yes h h2 h3 h4
theorem xhT{M:Nat}{s:ByteArray}(h3:opA M s<=3)(h1:1<=opA M s):∃l,leafW M s=some l:=by
 by_cases h0:opW s=0
 ·cases hl:leafW M s with
  | some l=>exact⟨l,rfl⟩
  | none=>
   exfalso
   unfold opA at h3 h1
   rw[if_pos h0,hl]at h3 h1
   dsimp only at h3 h1
   by_cases hf:freeB s=true
   ·rw[if_pos hf]at h3;omega
   ·rw[if_neg hf]at h1;omega
 ·exfalso
  have:∀n k,5<=k->opF s k n=0∨5<=opF s k n:=by
   intro n
   induction n with
   | zero=>intro k _;simp[opF]
   | succ n ih => intro k a; simp only [opF]; split
                  ·exact .inr a
                  ·exact ih (k+1) (by omega)
  have b:=this 39 5 (Nat.le_refl _)
  have e:opA M s=opW s:=by unfold opA;rw[if_neg h0]
  unfold opW at e h0
  omega
theorem qzX{M m:Nat}(hM:3000<=M)(hI:qhA M m):qhA M (m+1):=by
 intro B R n z ws a c p d w hL hB hR hd bV hc
 have bG:=hR.lt
 have bH:=hR.few
 have bI:=(Below.refl w.heap.size w).alloc (Nat.le_refl _) zeroN
 have bJ:=hR.same bI
 obtain⟨⟨cO,cP,cQ,cR⟩,bW,bX⟩:=bJ.cells
 obtain⟨W1,r⟩:∃W1,W1=(w.setCell ⟨R,3,none⟩ (.int .i64 ((c:Int)+1))).alloc zeroN:=⟨_,rfl⟩
 have aU:Rdr W1 R n z ws a (c+1):=by rw[r];exact (hR.setNo (c+1)).same ((Below.refl _ _).alloc (Nat.le_refl _) zeroN)
 have aV:Near R w W1:=by rw[r];exact (Near.set R 3 w _).trans (Near.alloc R _ zeroN)
 have bK:W1.heap[w.heap.size]?=some (.cells #[.int .i64 0,.int .i64 0,.string ⟨#[]⟩,.slice none 0 0,.slice none 0 0] 25 (0,0)):=by
  have:=heap_alloc_new (w.setCell ⟨R,3,none⟩ (.int .i64 ((c:Int)+1))) zeroN
  rw[show (w.setCell ⟨R,3,none⟩ (.int .i64 ((c:Int)+1))).heap.size=w.heap.size by simp]at this
  rw[r];exact this
 have bL:W1.heap.size=w.heap.size+1:=by rw[r];simp
 have cA:IntKind.i64.wrap ((c:Int)+1)=(c:Int)+1:=by rw[IntKind.wrap_i64];omega
 obtain⟨⟨r0,r1,r2,r3⟩,-⟩:=aU.cells
 have cB:W1.cell? ⟨R,3,none⟩=some (.int .i64 ((c:Int)+1)):=r3
 have HR:=Lib.hid hR
 have f:=Lib.hid aU
 have A:=Lib.hid aV
 have U:=Lib.hid bK
 have cC:=hidF bL
 have H:=Lib.hid (hL.near aV hB bG)
 have E:=hidF hB
 clear hL hB hR bI bJ aU aV bK bL r1 r2 r3 cO cP cQ bW
 by_cases hd24:d<=24
 case neg=>
  have bM:decide (d<=24)=false:=decide_eq_false hd24
  have HD:=Lib.hid (qcE f.out 3)
  have HP:Hid (qnE (m+1) R n z ws a w (qaI M ws (m+1) p d a c) (.panicked (qbT 3 a)) W1):=⟨A.out,.inr ⟨3,a,qzU (by omega),rfl⟩⟩
  clear HR f A U H E hI
  go_enter func51,ntmps51
  go_wp2_with fail
  rw[<- r]
  clear r
  refine HD.out.mono ?_
  rintro e w2 ⟨rfl,rfl⟩
  exact⟨rfl,HP.out⟩
 have bM:decide (d<=24)=true:=decide_eq_true hd24
 by_cases hc2:200<=c
 case pos=>
  have bN:decide ((c:Int)+1<=200)=false:=decide_eq_false (by omega)
  have bO:¬(c:Int)+1<=200:=by omega
  have HD:=Lib.hid (qcE f.out 4)
  have HP:Hid (qnE (m+1) R n z ws a w (qaI M ws (m+1) p d a c) (.panicked (qbT 4 a)) W1):=⟨A.out,.inr ⟨4,a,qzV (by omega) hc2,rfl⟩⟩
  clear HR f A U H E hI
  go_enter func51,ntmps51
  go_wp2_with fail
  rw[<- r]
  clear r
  refine (qbK _ _ _).mono ?_
  rintro e w2 ⟨rfl,rfl⟩
  go_wp2_with fail
  refine HD.out.mono ?_
  rintro e w3 ⟨rfl,rfl⟩
  exact⟨rfl,HP.out⟩
 have bN:decide ((c:Int)+1<=200)=true:=decide_eq_true (by omega)
 have bO:(c:Int)+1<=200:=by omega
 by_cases ha:a<ws.length
 case neg=>
  have cD:Hid (∀W,(W=W1.drew∨W=W1.drew.alloc zeroN)->Calls prog 66 #[.pointer (some ⟨R,0,none⟩)] W fun e w'=>e=.panicked (qbT 2 a)/\qnE (m+1) R n z ws a w (qaI M ws (m+1) p d a c) (.panicked (qbT 2 a)) w'):=fun W hW=>by
   refine (qjB (qqW f.out hW) ha).mono ?_
   rintro e w' ⟨rfl,k,rfl⟩
   exact⟨rfl,A.out.trans ((qeD hW).trans (qaJ (Near.refl R W) k)),.inr ⟨2,a,qzW (by omega) hc2 ha,rfl⟩⟩
  have cW:(W1.alloc zeroN).cell? ⟨R,0,none⟩=some (.pointer (some ⟨n,0,none⟩)):=(qqW f.out (.inr rfl)).cells.1.1
  clear HR f A U H E hI ha
  go_enter func51,ntmps51
  go_wp2_with fail
  rw[<- r]
  clear r
  refine (qbK _ _ _).mono ?_
  rintro e w2 ⟨rfl,rfl⟩
  go_wp2_with fail
  refine (qbK _ _ _).mono ?_
  rintro e w3 ⟨rfl,rfl⟩
  go_wp2_with fail
  go_region_dies
  all_goals (go_at_call 66;refine (cD.out _ (by first|exact .inl rfl|exact .inr rfl)).mono ?_;rintro e w' ⟨rfl,Y⟩;exact⟨rfl,Y⟩)
 obtain⟨s,aR⟩:∃s,ws[a]=s:=⟨_,rfl⟩
 obtain⟨k,hk⟩:∃k,opA M s=k:=⟨_,rfl⟩
 have u:k<44:=by rw[<- hk];exact xhY M s
 have cE:s.size<=3000:=by rw[<- aR];exact HR.out.short _ (List.getElem_mem ha)
 have I:Hid (∃h:a<ws.length,ws[a]=s):=⟨ha,aR⟩
 have J:=hidF hk
 have Z:Gd R n z ws a (c+1) W1 W1.drew:=⟨f.out.drewN 1,qaJ (Near.refl R W1) 1⟩
 have HW:Hid (∀W,Gd R n z ws a (c+1) W1 W->Calls prog 66 #[.pointer (some ⟨R,0,none⟩)] W fun e w'=>e=.returned (.string s)/\Gd R n z ws a (c+1) W1 w' /\ ∀(b:Nat)(o:Obj),W.heap[b]?=some o->w'.heap[b]?=some o):=fun W hW=>by
  have hw:=qgC hW.rdr ha
  rw[aR]at hw
  refine hw.mono ?_
  rintro e w' ⟨rfl,j,rfl⟩
  exact⟨rfl,⟨hW.rdr.drewN j,qaJ hW.near j⟩,fun b o h=>h⟩
 have HO:Hid (∀W,Gd R n z ws a (c+1) W1 W->Calls prog 65 #[.pointer (some ⟨n,0,none⟩),.string s] W fun e w'=>e=.returned (.int .i64 (k:Int))/\Gd R n z ws a (c+1) W1 w' /\ ∀(b:Nat)(o:Obj),W.heap[b]?=some o->w'.heap[b]?=some o):=fun W hW=>by
  have ho:=quY M B n s W hW.rdr.book cE hM (H.out.near hW.near E.out f.out.lt) (by have:=E.out;have:=hW.rdr.lt;omega)
  rw[hk]at ho
  refine ho.mono ?_
  rintro e w' ⟨rfl,hb⟩
  exact⟨rfl,⟨hW.rdr.same hb,hW.near.trans (Near.of_below hb)⟩,fun b o h=>(hb.block b (Array.getElem?_eq_some_iff.1 h).1).trans h⟩
 have HX:Hid (∀X W,W1.heap.size<=X->Gd R n z ws a (c+1) W1 W->W.heap[X]?=some (.cells #[.int .i64 0,.int .i64 0,.string ⟨#[]⟩,.slice none 0 0,.slice none 0 0] 25 (0,0))->W1.heap.size<=X/\Gd R n z ws a (c+1) W1 (put5 W X 0 (.int .i64 (k:Int)) (.int .i64 0) (.string ⟨#[]⟩) (.slice none 0 0) (.slice none 0 0))/\(put5 W X 0 (.int .i64 (k:Int)) (.int .i64 0) (.string ⟨#[]⟩) (.slice none 0 0) (.slice none 0 0)).heap[X]?=some (.cells #[.int .i64 (k:Int),.int .i64 0,.string ⟨#[]⟩,.slice none 0 0,.slice none 0 0] 25 (0,0))):=fun X W h1 h2 h3=>⟨h1,h2.laid5 f.out h1 k,xhS h3⟩
 have bP:Hid (∀W,Gd R n z ws a (c+1) W1 W->W1.heap.size<=W.heap.size/\Gd R n z ws a (c+1) W1 (W.alloc (.cells #[.int .i64 (k:Int),.int .i64 0,.string ⟨#[]⟩,.slice none 0 0,.slice none 0 0] 25))/\(W.alloc (.cells #[.int .i64 (k:Int),.int .i64 0,.string ⟨#[]⟩,.slice none 0 0,.slice none 0 0] 25)).heap[W.heap.size]?=some (.cells #[.int .i64 (k:Int),.int .i64 0,.string ⟨#[]⟩,.slice none 0 0,.slice none 0 0] 25 (0,0))):=fun W h=>⟨h.ge,h.alloc _,heap_alloc_new W _⟩
 clear hk aR
 go_enter func51,ntmps51
 go_wp2_with fail
 rw[<- r]
 clear r
 refine (qbK _ _ _).mono ?_
 rintro e w2 ⟨rfl,bY⟩
 rw[bY]
 clear bY
 go_wp2_with fail
 refine (qbK _ _ _).mono ?_
 rintro e w3 ⟨rfl,bZ⟩
 rw[bZ]
 clear bZ
 go_upto_region 4 with fail
 go_cut [7] from 10 to 35 (fun xv wx=>∃X,xv=.pointer (some ⟨X,0,none⟩)/\W1.heap.size<=X/\Gd R n z ws a (c+1) W1 wx/\wx.heap[X]?=some (.cells #[.int .i64 (k:Int),.int .i64 0,.string ⟨#[]⟩,.slice none 0 0,.slice none 0 0] 25 (0,0)))
 case first=>
  refine wp_region_held_drew (S:=(fun w'=>w'.cell? ⟨R,0,none⟩=some (.pointer (some ⟨n,0,none⟩)))) (by kernel_rfl) (by exact Z.r0) (fun hHeld=>?_)
  refine tk 0 ?_
  refine tk 1 ?_
  refine tk 2 ?_
  refine tk 3 ?_
  refine tk 4 ?_
  refine wpAnyH_ready (rs:=[5,8]) (by kernel_rfl) (by simp) ?_
  refine AllReadyH.cons rfl (fun K hK=>?_) (AllReadyH.cons rfl (fun K hK=>?_) AllReadyH.nil)
  ·go_simp
   go_at_call 66
   refine (HW.out _ (Z)).mono ?_
   rintro e v1 ⟨rfl,D,aN⟩
   refine hK.out _ _ (D.r0) (fun hHeld=>?_)
   clear hK K
   refine wpAnyH_ready (rs:=[6,8]) (by kernel_rfl) (by simp) ?_
   refine AllReadyH.cons rfl (fun K hK=>?_) (AllReadyH.cons rfl (fun K hK=>?_) AllReadyH.nil)
   ·go_simp
    go_at_call 65
    refine (HO.out _ (D)).mono ?_
    rintro e v2 ⟨rfl,t,aS⟩
    refine hK.out _ _ (t.r0) (fun hHeld=>?_)
    clear hK K
    refine tk 7 ?_
    refine wpAnyH_ready (rs:=[8]) (by kernel_rfl) (by simp) ?_
    refine AllReadyH.cons rfl (fun K hK=>?_) AllReadyH.nil
    go_simp
    refine hK.out _ _ ((t.alloc zeroN).r0) (fun hHeld=>?_)
    clear hK K
    have L:(v2.alloc zeroN).heap[v2.heap.size]?=_:=heap_alloc_new v2 zeroN
    obtain⟨⟨z0,z1,z2,z3,z4⟩,i⟩:=qaC L
    have aG:=i 0
    have aH:=i 1
    have aI:=i 2
    have aJ:=i 3
    have aK:=i 4
    have aA:=t.alloc (.cells #[.int .i64 (k:Int),.int .i64 0,.string ⟨#[]⟩,.slice none 0 0,.slice none 0 0] 25)
    refine wpAnyH_ready (rs:=[9]) (by kernel_rfl) (by simp) ?_
    refine AllReadyH.cons rfl (fun K hK=>?_) AllReadyH.nil
    go_simp
    refine hK.out _ _ (aA.r0) (fun hHeld=>?_)
    clear hK K
    refine wpAnyH_done (by kernel_rfl) ?_ _
    go_simp
    go_wp2_with fail
    go_meet
    exact⟨v2.heap.size,rfl,bP.out v2 t⟩
   ·go_simp
    refine hK.out _ _ ((D.alloc zeroN).r0) (fun hHeld=>?_)
    clear hK K
    refine wpAnyH_ready (rs:=[6]) (by kernel_rfl) (by simp) ?_
    refine AllReadyH.cons rfl (fun K hK=>?_) AllReadyH.nil
    go_simp
    go_at_call 65
    refine (HO.out _ (D.alloc zeroN)).mono ?_
    rintro e v2 ⟨rfl,t,aS⟩
    refine hK.out _ _ (t.r0) (fun hHeld=>?_)
    clear hK K
    refine tk 7 ?_
    have L:=aS v1.heap.size _ (heap_alloc_new v1 zeroN)
    obtain⟨⟨z0,z1,z2,z3,z4⟩,i⟩:=qaC L
    have aG:=i 0
    have aH:=i 1
    have aI:=i 2
    have aJ:=i 3
    have aK:=i 4
    have aA:=t.laid5 f.out (X:=v1.heap.size) (D.ge) k
    refine wpAnyH_ready (rs:=[9]) (by kernel_rfl) (by simp) ?_
    refine AllReadyH.cons rfl (fun K hK=>?_) AllReadyH.nil
    go_simp
    refine hK.out _ _ (aA.r0) (fun hHeld=>?_)
    clear hK K
    refine wpAnyH_done (by kernel_rfl) ?_ _
    go_simp
    go_wp2_with fail
    go_meet
    exact⟨v1.heap.size,rfl,HX.out v1.heap.size v2 D.ge t L⟩
  ·go_simp
   refine hK.out _ _ ((Z.alloc zeroN).r0) (fun hHeld=>?_)
   clear hK K
   refine wpAnyH_ready (rs:=[5]) (by kernel_rfl) (by simp) ?_
   refine AllReadyH.cons rfl (fun K hK=>?_) AllReadyH.nil
   go_simp
   go_at_call 66
   refine (HW.out _ (Z.alloc zeroN)).mono ?_
   rintro e v1 ⟨rfl,D,aN⟩
   refine hK.out _ _ (D.r0) (fun hHeld=>?_)
   clear hK K
   refine wpAnyH_ready (rs:=[6]) (by kernel_rfl) (by simp) ?_
   refine AllReadyH.cons rfl (fun K hK=>?_) AllReadyH.nil
   go_simp
   go_at_call 65
   refine (HO.out _ (D)).mono ?_
   rintro e v2 ⟨rfl,t,aS⟩
   refine hK.out _ _ (t.r0) (fun hHeld=>?_)
   clear hK K
   refine tk 7 ?_
   have L:=aS W1.heap.size _ (aN W1.heap.size _ (heap_alloc_new W1.drew zeroN))
   obtain⟨⟨z0,z1,z2,z3,z4⟩,i⟩:=qaC L
   have aG:=i 0
   have aH:=i 1
   have aI:=i 2
   have aJ:=i 3
   have aK:=i 4
   have aA:=t.laid5 f.out (X:=W1.heap.size) (Nat.le_refl _) k
   refine wpAnyH_ready (rs:=[9]) (by kernel_rfl) (by simp) ?_
   refine AllReadyH.cons rfl (fun K hK=>?_) AllReadyH.nil
   go_simp
   refine hK.out _ _ (aA.r0) (fun hHeld=>?_)
   clear hK K
   refine wpAnyH_done (by kernel_rfl) ?_ _
   go_simp
   go_wp2_with fail
   go_meet
   exact⟨W1.heap.size,rfl,HX.out W1.heap.size v2 (Nat.le_refl _) t L⟩
 case rest=>
  obtain⟨X,rfl,hX,bB,F⟩:=hcut
  clear HW HO HX bP Z r0 cB cR bX bM bN bO cA
  have HG:=Lib.hid bB
  have aL:=Lib.hid F
  have aM:=hidF hX
  have aB:X<wc.heap.size:=(Array.getElem?_eq_some_iff.1 F).1
  obtain⟨⟨x0,-,-,-,-⟩,-⟩:=qaC F
  have aC:Hid (∀w,Calls prog 67 #[.int .i64 (k:Int)] w fun e w'=>e=.returned (.int .i32 (poF (k:Int)))/\w'=w):=fun w=>qxT k w
  by_cases hpo:poF (k:Int)=actI p
  case neg=>
   have cF:(poF (k:Int)==actI p)=false:=by simp[hpo]
   have HD:=Lib.hid (qcE HG.out.rdr 2)
   have HP:Hid (qnE (m+1) R n z ws a w (qaI M ws (m+1) p d a c) (.panicked (qbT 2 a)) wc):=by
    obtain⟨hq,hs⟩:=I.out
    exact⟨A.out.trans HG.out.near,.inr ⟨2,a,xfB (by omega) hc2 hq (by rw[hs,J.out];exact hpo),rfl⟩⟩
   clear hpo bB F HG aL HR f A U H E hI I J hX aB ha
   generalize poF (k:Int)=po at *
   generalize actI p=ai at *
   go_wp2_with fail
   refine (aC.out _).mono ?_
   rintro e w5 ⟨rfl,rfl⟩
   go_wp2_with fail
   refine HD.out.mono ?_
   rintro e w6 ⟨rfl,rfl⟩
   exact⟨rfl,HP.out⟩
  have cF:(poF (k:Int)==actI p)=true:=by simp[hpo]
  have aN:1<=k:=by
   rcases Nat.eq_zero_or_pos k with h0|h0
   ·exfalso;rw[h0]at hpo;unfold poF actI at hpo;cases p<;>simp at hpo
   ·exact h0
  have aT:Hid (qaI M ws (m+1) p d a c=qcN M (fun b=>qaI M ws m b (d+1)) ws (prt k) ⟨(k:Int),0,ByteArray.empty,[],[]⟩ (if k<=4 then a else a+1) (c+1)):=by
   obtain⟨hq,hs⟩:=I.out
   show _=_
   rw[xfC (by omega) hc2 hq (by rw[hs,J.out];exact hpo),hs,J.out]
  have bQ:Hid (k<=3->∃(h:a<ws.length)(l:Int×Int×ByteArray),leafW M ws[a]=some l):=fun h3=>by
   obtain⟨hq,hs⟩:=I.out
   obtain⟨l,hl⟩:=xhT (M:=M) (s:=s) (by rw[J.out];exact h3) (by rw[J.out];exact aN)
   exact⟨hq,l,by rw[hs];exact hl⟩
  clear hpo bB F hX
  have aO:Hid (∀(V:World)(G:Nat),G=(if k<=4 then a else a+1)->Near R wc V->Rdr V R n z ws G (c+1)->NAt M B R X V.heap.size w.heap.size n m k z ws w W1 (V.drew.iter (bs (prt k)) 0) p d a c 0 ⟨(k:Int),0,ByteArray.empty,[],[]⟩ G (c+1) none 0 none 0):=by
   intro V G bC hn hr
   have cG:=I.out
   obtain⟨hq,-⟩:=cG
   have bR:a<=G/\G<=a+1:=by rw[bC];split<;>omega
   have bS:Below V.heap.size V (V.drew.iter (bs (prt k)) 0):=(Below.refl V.heap.size V).drew.alloc (Nat.le_refl _) _
   have v:Near R wc (V.drew.iter (bs (prt k)) 0):=hn.trans (Near.of_below bS)
   have cH:X<V.heap.size:=Nat.lt_of_lt_of_le aB hn.size
   have bT:R<X:=by have:=aM.out;have:=f.out.lt;omega
   have cI:(V.drew.iter (bs (prt k)) 0).heap[X]?=some (.cells #[.int .i64 (k:Int),.int .i64 0,.string ⟨#[]⟩,.slice none 0 0,.slice none 0 0] 25 (0,0)):=(v.block X aB (by omega)).trans aL.out
   have hz:w.heap.size<W1.heap.size:=by rw[cC.out];omega
   have cJ:ManyN R X V.heap.size m W1 (V.drew.iter (bs (prt k)) 0) (k:Int) 0 ByteArray.empty [] [] (.slice none 0 0) (.slice none 0 0):=
    ⟨HG.out.near.trans v,cI,World.ownsRow_nil _ _ _ _,fun _ h=>(by cases h),⟨[],World.ownsRow_nil _ _ _ _,fun j h=>absurd h (Nat.not_lt_zero _)⟩,fun b hb=>(by cases hb),⟨by omega,by show V.heap.size<(V.heap.push _).size;simp⟩⟩
   refine⟨⟨ManyNP.start cJ,hr.same bS,⟨a,c+1,f.out⟩,H.out,E.out,bT,aM.out,by simp,cH,World.iter_heap V.drew _ _⟩,Nat.zero_le _,?_,rfl,by omega,by omega,fun _ h3=>?_,?_,⟨hz,by omega,rfl⟩,A.out,HR.out⟩
   ·rw[List.drop_zero,aT.out,bC]
   ·have e:G=a:=by rw[bC,if_pos (by omega)]
    subst e
    exact bQ.out h3
   ·have h1:=(HG.out.near.trans v).block w.heap.size hz (by omega)
    exact h1.trans U.out
  obtain⟨b0,b1,-,-⟩:=HG.out.rdr.book k u
  have r0:=HG.out.r0
  have cK:=HG.out.rdr.book.lt
  have cL:(k:Int)<44:=by omega
  have aW:Hid (∀j,Calls prog 68 #[.pointer (some ⟨R,0,none⟩)] (wc.drewN j) fun e w'=>(∃x,e=.returned (.string x))/\Near R wc w' /\ Rdr w' R n z ws (a+1) (c+1)):=fun j=>by
   obtain⟨hq,-⟩:=I.out
   refine (qfJ (HG.out.rdr.drewN j) hq).mono ?_
   rintro e w' ⟨rfl,hn,hr⟩
   exact⟨⟨_,rfl⟩,(qaJ (Near.refl R wc) j).trans hn,hr⟩
  have aP:Hid (∀(V:World)(G:Nat),Near R wc V->Rdr V R n z ws G (c+1)->V.cell? ⟨R,0,none⟩=some (.pointer (some ⟨n,0,none⟩))/\V.cell? ⟨X,0,none⟩=some (.int .i64 (k:Int))/\V.cell? ⟨n,k*4+1,none⟩=some (.string (bs (prt k)))):=fun V G hn hr=>by
   have bT:R<X:=by have:=aM.out;have:=f.out.lt;omega
   exact⟨hr.cells.1.1,(qaC ((hn.block X aB (by omega)).trans aL.out)).1.1,(hr.book k u).2.1⟩
  have aQ:=hidF (xeZ k u)
  have q:Hid (qhA M m/\3000<=M):=⟨hI,hM⟩
  have bU:=hidF bV
  have aX:Hid (∀j,Rdr (wc.drewN j) R n z ws a (c+1)):=fun j=>HG.out.rdr.drewN j
  clear hI hM bV aB bQ aT HG aL HR f A U H E I J aM ha bH bG cK
  generalize poF (k:Int)=po at *
  generalize actI p=ai at *
  by_cases hk4:k<=4
  ·have aY:(wrd k).toList=[]:=by rw[ByteArray.toList_eq];exact List.eq_nil_of_length_eq_zero (by have:=aQ.out.2 hk4;simpa using this)
   have cM:((wrd k).toList==[])=true:=by rw[aY];rfl
   go_wp2_with fail
   refine (aC.out _).mono ?_
   rintro e w5 ⟨rfl,aD⟩
   rw[aD]
   clear aD
   go_wp2_with fail
   refine (qbK _ _ _).mono ?_
   rintro e w6 ⟨rfl,aE⟩
   rw[aE]
   clear aE aC
   go_wp2_with fail
   go_quiet (fail)
   go_wp2_with fail
   obtain⟨V,hV⟩:∃V,V=wc.drewN nq:=⟨_,rfl⟩
   have v:Near R wc V:=by rw[hV];exact qaJ (Near.refl R wc) nq
   have N:Rdr V R n z ws a (c+1):=by rw[hV];exact aX.out nq
   rw[<- hV]
   clear hV aX aW b0 b1 r0 x0
   obtain⟨q0,q1,q2⟩:=aP.out V _ v N
   have HJ:=Lib.hid (aO.out V _ (by first|rw[if_pos hk4]|rw[if_neg hk4]) v N)
   clear aO aP v N aQ
   go_region
   go_wp2_with fail
   clear q0 q1 q2
   go_loopw [9] (fun _ wr=>∃(pos:Nat)(n1:Nd (T m))(G c1:Nat)(na:Option Addr)(nc:Nat)(ka:Option Addr)(kc:Nat),NAt M B R X V.heap.size w.heap.size n m k z ws w W1 wr p d a c pos n1 G c1 na nc ka kc) (fun _ wr=>(prt k).length-wr.iterPos V.heap.size)
   case atStart=>exact⟨0,_,_,_,_,_,_,_,HJ.out⟩
   case round=>
    obtain⟨pos,n1,G,c1,na,nc,ka,kc,C⟩:=hrel
    have bR:=C.le
    have y:=C.st.iter
    have g:=iterPos_of y
    clear HJ
    by_cases Y:pos<(prt k).length
    ·have O:=fun ty=>Lib.run_next_ascii_at (P:=prog) wr V.heap.size (bs (prt k)) pos ty y (by rw[qaL];exact Y) (by rw[qkQ];exact qmK k u _ (List.getElem_mem Y))
     rw[qkQ]at O
     have HC:=Lib.hid (C.step q.out.2 q.out.1 u hd (by have:=bU.out;omega) Y)
     have HI:Hid (wr.iterPos V.heap.size=pos):=g
     clear C y g
     go_wp2_with fail
     refine HC.out.mono ?_
     rintro e w2 (⟨rfl,n2,a2,c2,cS,cT,cU,cV,Q⟩|⟨aF,bD,rfl,bE,bF⟩)
     ·have aZ:=Lib.hid Q
      have bA:Hid (w2.iterPos V.heap.size=pos+1):=iterPos_of Q.st.iter
      clear Q HC O
      go_wp2_with fail
      go_roundw
      case rel=>exact⟨pos+1,_,_,_,_,_,_,_,aZ.out⟩
      case measure=>rw[bA.out,HI.out];omega
     ·exact⟨rfl,bF,.inr ⟨aF,bD,bE,rfl⟩⟩
    ·have O:=fun ty=>Lib.run_next_end_at (P:=prog) wr V.heap.size (bs (prt k)) pos ty y (by rw[qaL];exact Y)
     have HE:=Lib.hid (C.out Y)
     obtain⟨⟨x0,x1,x2,x3,x4⟩,-⟩:=qaC C.st.many.box
     obtain⟨⟨z0,z1,z2,z3,z4⟩,i⟩:=qaC C.zero
     have aG:=i 0
     have aH:=i 1
     have aI:=i 2
     have aJ:=i 3
     have aK:=i 4
     have cN:¬w.heap.size=X:=by have:=C.zx;have:=C.st.wx;omega
     generalize n1.names.length=nl at *
     generalize n1.kids.length=kl at *
     clear C y g i q
     go_wp2_with fail
     refine bodyPost_ret (by simp[results,results51,go_sem,z0,z1,z2,z3,z4];rfl) rfl ?_
     exact HE.out
  ·have aY:¬ (wrd k).toList=[]:=by
    rw[ByteArray.toList_eq];intro e
    have h1:(wrd k).data.toList.length=0:=by rw[e];rfl
    have h2:(wrd k).data.toList.length=(wrd k).size:=by simp
    exact hk4 (aQ.out.1 (by omega))
   have cM:((wrd k).toList==[])=false:=by simpa using aY
   go_wp2_with fail
   refine (aC.out _).mono ?_
   rintro e w5 ⟨rfl,aD⟩
   rw[aD]
   clear aD
   go_wp2_with fail
   refine (qbK _ _ _).mono ?_
   rintro e w6 ⟨rfl,aE⟩
   rw[aE]
   clear aE aC
   go_wp2_with fail
   go_quiet (fail)
   go_wp2_with fail
   refine (aW.out nq).mono ?_
   rintro e V ⟨⟨x,rfl⟩,v,N⟩
   clear aX aW b0 b1 r0 x0
   go_wp2_with fail
   obtain⟨q0,q1,q2⟩:=aP.out V _ v N
   have HJ:=Lib.hid (aO.out V _ (by first|rw[if_pos hk4]|rw[if_neg hk4]) v N)
   clear aO aP v N aQ
   go_region
   go_wp2_with fail
   clear q0 q1 q2
   go_loopw [9] (fun _ wr=>∃(pos:Nat)(n1:Nd (T m))(G c1:Nat)(na:Option Addr)(nc:Nat)(ka:Option Addr)(kc:Nat),NAt M B R X V.heap.size w.heap.size n m k z ws w W1 wr p d a c pos n1 G c1 na nc ka kc) (fun _ wr=>(prt k).length-wr.iterPos V.heap.size)
   case atStart=>exact⟨0,_,_,_,_,_,_,_,HJ.out⟩
   case round=>
    obtain⟨pos,n1,G,c1,na,nc,ka,kc,C⟩:=hrel
    have bR:=C.le
    have y:=C.st.iter
    have g:=iterPos_of y
    clear HJ
    by_cases Y:pos<(prt k).length
    ·have O:=fun ty=>Lib.run_next_ascii_at (P:=prog) wr V.heap.size (bs (prt k)) pos ty y (by rw[qaL];exact Y) (by rw[qkQ];exact qmK k u _ (List.getElem_mem Y))
     rw[qkQ]at O
     have HC:=Lib.hid (C.step q.out.2 q.out.1 u hd (by have:=bU.out;omega) Y)
     have HI:Hid (wr.iterPos V.heap.size=pos):=g
     clear C y g
     go_wp2_with fail
     refine HC.out.mono ?_
     rintro e w2 (⟨rfl,n2,a2,c2,cS,cT,cU,cV,Q⟩|⟨aF,bD,rfl,bE,bF⟩)
     ·have aZ:=Lib.hid Q
      have bA:Hid (w2.iterPos V.heap.size=pos+1):=iterPos_of Q.st.iter
      clear Q HC O
      go_wp2_with fail
      go_roundw
      case rel=>exact⟨pos+1,_,_,_,_,_,_,_,aZ.out⟩
      case measure=>rw[bA.out,HI.out];omega
     ·exact⟨rfl,bF,.inr ⟨aF,bD,bE,rfl⟩⟩
    ·have O:=fun ty=>Lib.run_next_end_at (P:=prog) wr V.heap.size (bs (prt k)) pos ty y (by rw[qaL];exact Y)
     have HE:=Lib.hid (C.out Y)
     obtain⟨⟨x0,x1,x2,x3,x4⟩,-⟩:=qaC C.st.many.box
     obtain⟨⟨z0,z1,z2,z3,z4⟩,i⟩:=qaC C.zero
     have aG:=i 0
     have aH:=i 1
     have aI:=i 2
     have aJ:=i 3
     have aK:=i 4
     have cN:¬w.heap.size=X:=by have:=C.zx;have:=C.st.wx;omega
     generalize n1.names.length=nl at *
     generalize n1.kids.length=kl at *
     clear C y g i q
     go_wp2_with fail
     refine bodyPost_ret (by simp[results,results51,go_sem,z0,z1,z2,z3,z4];rfl) rfl ?_
     exact HE.out
end Go.Proofs.YtelogmjfekhmpaaGreatDoor
