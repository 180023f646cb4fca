import Derived.Test.YtelogmjfekhmpaaGreatDoorPN9
namespace Go.Proofs.YtelogmjfekhmpaaGreatDoor
set_option maxRecDepth 100000
set_option maxHeartbeats 16000000
open Go.RowKit
theorem xjW {α:Type} {M:Nat} {rk:Bool->Nat->Nat->Rd3 α} {ws:List ByteArray} {act:Bool} {d:Int} {a c:Nat} (h:24<d):bodyR M rk ws act d a c=.error (3,a):=by
 unfold bodyR;rw[if_pos h]
theorem qzU {M m:Nat} {ws:List ByteArray} {act:Bool} {d:Int} {a c:Nat} (h:24<d):qaI M ws (m+1) act d a c=.error (3,a):=xjW h
theorem xjX {α:Type} {M:Nat} {rk:Bool->Nat->Nat->Rd3 α} {ws:List ByteArray} {act:Bool} {d:Int} {a c:Nat} (h:¬ 24<d) (h2:200<=c):bodyR M rk ws act d a c=.error (4,a):=by
 unfold bodyR;rw[if_neg h,if_pos h2]
theorem qzV {M m:Nat} {ws:List ByteArray} {act:Bool} {d:Int} {a c:Nat} (h:¬ 24<d) (h2:200<=c):qaI M ws (m+1) act d a c=.error (4,a):=xjX h h2
theorem xjY {α:Type} {M:Nat} {rk:Bool->Nat->Nat->Rd3 α} {ws:List ByteArray} {act:Bool} {d:Int} {a c:Nat} (h:¬ 24<d) (h2:¬ 200<=c) (h3:¬ a<ws.length):bodyR M rk ws act d a c=.error (2,a):=by
 unfold bodyR;rw[if_neg h,if_neg h2,List.getElem?_eq_none (by omega)]
theorem qzW {M m:Nat} {ws:List ByteArray} {act:Bool} {d:Int} {a c:Nat} (h:¬ 24<d) (h2:¬ 200<=c) (h3:¬ a<ws.length):qaI M ws (m+1) act d a c=.error (2,a):=xjY h h2 h3
theorem bR_bad {α:Type} {M:Nat} {rk:Bool->Nat->Nat->Rd3 α} {ws:List ByteArray} {act:Bool} {d:Int} {a c:Nat} (h:¬ 24<d) (h2:¬ 200<=c) (h3:a<ws.length) (h4:¬ poF (opA M ws[a]:Int)=actI act):bodyR M rk ws act d a c=.error (2,a):=by
 unfold actI at h4;unfold bodyR;rw[if_neg h,if_neg h2,List.getElem?_eq_getElem h3];dsimp only;rw[if_neg h4]
theorem xfA {M m:Nat} {ws:List ByteArray} {act:Bool} {d:Int} {a c:Nat} (h:¬ 24<d) (h2:¬ 200<=c) (h3:a<ws.length) (h4:¬ poF (opA M ws[a]:Int)=actI act):qaI M ws (m+1) act d a c=.error (2,a):=bR_bad h h2 h3 h4
theorem bR_yes {α:Type} {M:Nat} {rk:Bool->Nat->Nat->Rd3 α} {ws:List ByteArray} {act:Bool} {d:Int} {a c:Nat} (h:¬ 24<d) (h2:¬ 200<=c) (h3:a<ws.length) (h4:poF (opA M ws[a]:Int)=actI act):bodyR M rk ws act d a c=qcP M rk ws (prt (opA M ws[a])) ⟨(opA M ws[a]:Int),0,ByteArray.empty,[],[]⟩ (if opA M ws[a]<=4 then a else a+1) (c+1):=by
 unfold actI at h4;unfold bodyR;rw[if_neg h,if_neg h2,List.getElem?_eq_getElem h3];dsimp only;rw[if_pos h4]
theorem xfB {M m:Nat} {ws:List ByteArray} {act:Bool} {d:Int} {a c:Nat} (h:¬ 24<d) (h2:¬ 200<=c) (h3:a<ws.length) (h4:poF (opA M ws[a]:Int)=actI act):qaI M ws (m+1) act d a c=qcP M (fun b=>qaI M ws m b (d+1)) ws (prt (opA M ws[a])) ⟨(opA M ws[a]:Int),0,ByteArray.empty,[],[]⟩ (if opA M ws[a]<=4 then a else a+1) (c+1):=bR_yes h h2 h3 h4
theorem xhS {M:Nat} {s:ByteArray} (h3:opA M s<=3) (h1:1<=opA M s):∃ l,leafW M s=some l:=by
 by_cases h0:opW s=0
 ·cases hl:leafW M s with
  | some l=>exact⟨l,rfl⟩
  | none=>
   exfalso
   unfold opA at h3 h1
   rw[if_pos h0,hl]at h3 h1
   dsimp only at h3 h1
   by_cases hf:freeB s=true
   ·rw[if_pos hf]at h3;omega
   ·rw[if_neg hf]at h1;omega
 ·exfalso
  have:∀ n k,5<=k->opF s k n=0∨5<=opF s k n:=by
   intro n
   induction n with
   | zero=>intro k _;simp[opF]
   | succ n ih => intro k hk; simp only [opF]; split
                  ·exact .inr hk
                  ·exact ih (k+1) (by omega)
  have h5:=this 39 5 (Nat.le_refl _)
  have e:opA M s=opW s:=by unfold opA;rw[if_neg h0]
  unfold opW at e h0
  omega
theorem qzX {M m:Nat} (hM:3000<=M) (hI:qhC M m):qhC M (m+1):=by
 intro B R bk wv ws a c act d w hL hB hR hd cK hc
 have bV:=hR.lt
 have bJ:=hR.few
 have bW:=(Below.refl w.heap.size w).alloc (Nat.le_refl _) zeroN
 have bX:=hR.same bW
 obtain⟨⟨ra0,ra1,ra2,ra3⟩,raf2,raf3⟩:=bX.cells
 obtain⟨W1,aE⟩:∃ W1,W1=(w.setCell ⟨R,3,none⟩ (.int .i64 ((c:Int)+1))).alloc zeroN:=⟨_,rfl⟩
 have bK:Rdr W1 R bk wv ws a (c+1):=by rw[aE];exact (hR.setNo (c+1)).same ((Below.refl _ _).alloc (Nat.le_refl _) zeroN)
 have bL:Near R w W1:=by rw[aE];exact (Near.set R 3 w _).trans (Near.alloc R _ zeroN)
 have bY:W1.heap[w.heap.size]?=some (.cells #[.int .i64 0,.int .i64 0,.string ⟨#[]⟩,.slice none 0 0,.slice none 0 0] 25 (0,0)):=by
  have:=heap_alloc_new (w.setCell ⟨R,3,none⟩ (.int .i64 ((c:Int)+1))) zeroN
  rw[show (w.setCell ⟨R,3,none⟩ (.int .i64 ((c:Int)+1))).heap.size=w.heap.size by simp]at this
  rw[aE];exact this
 have bZ:W1.heap.size=w.heap.size+1:=by rw[aE];simp
 have cN:IntKind.i64.wrap ((c:Int)+1)=(c:Int)+1:=by rw[IntKind.wrap_i64];omega
 obtain⟨⟨r0,r1,r2,r3⟩,-⟩:=bK.cells
 have r3':W1.cell? ⟨R,3,none⟩=some (.int .i64 ((c:Int)+1)):=r3
 have HR:=Lib.hid hR
 have aC:=Lib.hid bK
 have aJ:=Lib.hid bL
 have aT:=Lib.hid bY
 have cO:=hidF bZ
 have aM:=Lib.hid (hL.near bL hB bV)
 have aL:=hidF hB
 clear hL hB hR bW bX bK bL bY bZ r1 r2 r3 ra0 ra1 ra2 raf2
 by_cases hd24:d<=24
 case neg=>
  have cA:decide (d<=24)=false:=decide_eq_false hd24
  have HD:=Lib.hid (qcG aC.out 3)
  have HP:Hid (qnF (m+1) R bk wv ws a w (qaI M ws (m+1) act d a c) (.panicked (qbV 3 a)) W1):=⟨aJ.out,.inr ⟨3,a,qzU (by omega),rfl⟩⟩
  clear HR aC aJ aT aM aL hI
  go_enter Tryz.func51,Tryz.ntmps51
  go_wp2_with fail
  rw[<- aE]
  clear aE
  refine HD.out.mono ?_
  rintro e w2 ⟨rfl,rfl⟩
  exact⟨rfl,HP.out⟩
 have cA:decide (d<=24)=true:=decide_eq_true hd24
 by_cases hc2:200<=c
 case pos=>
  have cB:decide ((c:Int)+1<=200)=false:=decide_eq_false (by omega)
  have cC:¬ (c:Int)+1<=200:=by omega
  have HD:=Lib.hid (qcG aC.out 4)
  have HP:Hid (qnF (m+1) R bk wv ws a w (qaI M ws (m+1) act d a c) (.panicked (qbV 4 a)) W1):=⟨aJ.out,.inr ⟨4,a,qzV (by omega) hc2,rfl⟩⟩
  clear HR aC aJ aT aM aL hI
  go_enter Tryz.func51,Tryz.ntmps51
  go_wp2_with fail
  rw[<- aE]
  clear aE
  refine (qbM _ _ _).mono ?_
  rintro e w2 ⟨rfl,rfl⟩
  go_wp2_with fail
  refine HD.out.mono ?_
  rintro e w3 ⟨rfl,rfl⟩
  exact⟨rfl,HP.out⟩
 have cB:decide ((c:Int)+1<=200)=true:=decide_eq_true (by omega)
 have cC:(c:Int)+1<=200:=by omega
 by_cases ha:a<ws.length
 case neg=>
  have cP:Hid (∀ W,(W=W1.drew∨W=W1.drew.alloc zeroN)->Calls Tryz.prog 66 #[.pointer (some ⟨R,0,none⟩)] W fun e w'=>e=.panicked (qbV 2 a)/\qnF (m+1) R bk wv ws a w (qaI M ws (m+1) act d a c) (.panicked (qbV 2 a)) w'):=fun W hW=>by
   refine (qjG (qqW aC.out hW) ha).mono ?_
   rintro e w' ⟨rfl,k,rfl⟩
   exact⟨rfl,aJ.out.trans ((qeG hW).trans (qaK (Near.refl R W) k)),.inr ⟨2,a,qzW (by omega) hc2 ha,rfl⟩⟩
  have r0a:(W1.alloc zeroN).cell? ⟨R,0,none⟩=some (.pointer (some ⟨bk,0,none⟩)):=(qqW aC.out (.inr rfl)).cells.1.1
  clear HR aC aJ aT aM aL hI ha
  go_enter Tryz.func51,Tryz.ntmps51
  go_wp2_with fail
  rw[<- aE]
  clear aE
  refine (qbM _ _ _).mono ?_
  rintro e w2 ⟨rfl,rfl⟩
  go_wp2_with fail
  refine (qbM _ _ _).mono ?_
  rintro e w3 ⟨rfl,rfl⟩
  go_wp2_with fail
  go_region_dies
  all_goals (go_at_call 66;refine (cP.out _ (by first|exact .inl rfl|exact .inr rfl)).mono ?_;rintro e w' ⟨rfl,hp⟩;exact⟨rfl,hp⟩)
 obtain⟨s,bH⟩:∃ s,ws[a]=s:=⟨_,rfl⟩
 obtain⟨k,hk⟩:∃ k,opA M s=k:=⟨_,rfl⟩
 have aD:k<44:=by rw[<- hk];exact xhX M s
 have cQ:s.size<=3000:=by rw[<- bH];exact HR.out.short _ (List.getElem_mem ha)
 have aN:Hid (∃ h:a<ws.length,ws[a]=s):=⟨ha,bH⟩
 have aO:=hidF hk
 have aU:Gd R bk wv ws a (c+1) W1 W1.drew:=⟨aC.out.drewN 1,qaK (Near.refl R W1) 1⟩
 have HW:Hid (∀ W,Gd R bk wv ws a (c+1) W1 W->Calls Tryz.prog 66 #[.pointer (some ⟨R,0,none⟩)] W fun e w'=>e=.returned (.string s)/\Gd R bk wv ws a (c+1) W1 w' /\ ∀ (b:Nat) (o:Obj),W.heap[b]?=some o->w'.heap[b]?=some o):=fun W hW=>by
  have hw:=qgF hW.rdr ha
  rw[bH]at hw
  refine hw.mono ?_
  rintro e w' ⟨rfl,j,rfl⟩
  exact⟨rfl,⟨hW.rdr.drewN j,qaK hW.near j⟩,fun b o h=>h⟩
 have HO:Hid (∀ W,Gd R bk wv ws a (c+1) W1 W->Calls Tryz.prog 65 #[.pointer (some ⟨bk,0,none⟩),.string s] W fun e w'=>e=.returned (.int .i64 (k:Int))/\Gd R bk wv ws a (c+1) W1 w' /\ ∀ (b:Nat) (o:Obj),W.heap[b]?=some o->w'.heap[b]?=some o):=fun W hW=>by
  have ho:=quZ M B bk s W hW.rdr.book cQ hM (aM.out.near hW.near aL.out aC.out.lt) (by have:=aL.out;have:=hW.rdr.lt;omega)
  rw[hk]at ho
  refine ho.mono ?_
  rintro e w' ⟨rfl,hb⟩
  exact⟨rfl,⟨hW.rdr.same hb,hW.near.trans (Near.of_below hb)⟩,fun b o h=>(hb.block b (Array.getElem?_eq_some_iff.1 h).1).trans h⟩
 have HX:Hid (∀ X W,W1.heap.size<=X->Gd R bk wv ws a (c+1) W1 W->W.heap[X]?=some (.cells #[.int .i64 0,.int .i64 0,.string ⟨#[]⟩,.slice none 0 0,.slice none 0 0] 25 (0,0))->W1.heap.size<=X/\Gd R bk wv ws a (c+1) W1 (put5 W X 0 (.int .i64 (k:Int)) (.int .i64 0) (.string ⟨#[]⟩) (.slice none 0 0) (.slice none 0 0))/\(put5 W X 0 (.int .i64 (k:Int)) (.int .i64 0) (.string ⟨#[]⟩) (.slice none 0 0) (.slice none 0 0)).heap[X]?=some (.cells #[.int .i64 (k:Int),.int .i64 0,.string ⟨#[]⟩,.slice none 0 0,.slice none 0 0] 25 (0,0))):=fun X W h1 h2 h3=>⟨h1,h2.laid5 aC.out h1 k,xhR h3⟩
 have cD:Hid (∀ W,Gd R bk wv ws a (c+1) W1 W->W1.heap.size<=W.heap.size/\Gd R bk wv ws a (c+1) W1 (W.alloc (.cells #[.int .i64 (k:Int),.int .i64 0,.string ⟨#[]⟩,.slice none 0 0,.slice none 0 0] 25))/\(W.alloc (.cells #[.int .i64 (k:Int),.int .i64 0,.string ⟨#[]⟩,.slice none 0 0,.slice none 0 0] 25)).heap[W.heap.size]?=some (.cells #[.int .i64 (k:Int),.int .i64 0,.string ⟨#[]⟩,.slice none 0 0,.slice none 0 0] 25 (0,0))):=fun W h=>⟨h.ge,h.alloc _,heap_alloc_new W _⟩
 clear hk bH
 go_enter Tryz.func51,Tryz.ntmps51
 go_wp2_with fail
 rw[<- aE]
 clear aE
 refine (qbM _ _ _).mono ?_
 rintro e w2 ⟨rfl,cL⟩
 rw[cL]
 clear cL
 go_wp2_with fail
 refine (qbM _ _ _).mono ?_
 rintro e w3 ⟨rfl,cM⟩
 rw[cM]
 clear cM
 go_upto_region 4 with fail
 go_cut [7] from 10 to 35 (fun xv wx=>∃ X,xv=.pointer (some ⟨X,0,none⟩)/\W1.heap.size<=X/\Gd R bk wv ws a (c+1) W1 wx/\wx.heap[X]?=some (.cells #[.int .i64 (k:Int),.int .i64 0,.string ⟨#[]⟩,.slice none 0 0,.slice none 0 0] 25 (0,0)))
 case first=>
  refine wp_region_held_drew (S:=(fun w'=>w'.cell? ⟨R,0,none⟩=some (.pointer (some ⟨bk,0,none⟩)))) (by kernel_rfl) (by exact aU.r0) (fun hHeld=>?_)
  refine wpAnyH_take (i:=0) (v:=?_) rfl (by kernel_rfl) (by kernel_rfl) (by kernel_rfl) (fun _ _ _ h=>h) (Or.inl ⟨by kernel_rfl,?_⟩) (by assumption) ?_
  rotate_left 1
  ·(intro wq hSw;(try dsimp only at hSw);go_simp;first|done|with_reducible rfl)
  refine wpAnyH_take (i:=1) (v:=?_) rfl (by kernel_rfl) (by kernel_rfl) (by kernel_rfl) (fun _ _ _ h=>h) (Or.inl ⟨by kernel_rfl,?_⟩) (by assumption) ?_
  rotate_left 1
  ·(intro wq hSw;(try dsimp only at hSw);go_simp;first|done|with_reducible rfl)
  refine wpAnyH_take (i:=2) (v:=?_) rfl (by kernel_rfl) (by kernel_rfl) (by kernel_rfl) (fun _ _ _ h=>h) (Or.inl ⟨by kernel_rfl,?_⟩) (by assumption) ?_
  rotate_left 1
  ·(intro wq hSw;(try dsimp only at hSw);go_simp;first|done|with_reducible rfl)
  refine wpAnyH_take (i:=3) (v:=?_) rfl (by kernel_rfl) (by kernel_rfl) (by kernel_rfl) (fun _ _ _ h=>h) (Or.inl ⟨by kernel_rfl,?_⟩) (by assumption) ?_
  rotate_left 1
  ·(intro wq hSw;(try dsimp only at hSw);go_simp;first|done|with_reducible rfl)
  refine wpAnyH_take (i:=4) (v:=?_) rfl (by kernel_rfl) (by kernel_rfl) (by kernel_rfl) (fun _ _ _ h=>h) (Or.inl ⟨by kernel_rfl,?_⟩) (by assumption) ?_
  rotate_left 1
  ·(intro wq hSw;(try dsimp only at hSw);go_simp;first|done|with_reducible rfl)
  refine wpAnyH_ready (rs:=[5,8]) (by kernel_rfl) (by simp) ?_
  refine AllReadyH.cons rfl (fun K hK=>?_) (AllReadyH.cons rfl (fun K hK=>?_) AllReadyH.nil)
  ·go_simp
   go_at_call 66
   refine (HW.out _ (aU)).mono ?_
   rintro e v1 ⟨rfl,aK,bD⟩
   refine hK.out _ _ (aK.r0) (fun hHeld=>?_)
   clear hK K
   refine wpAnyH_ready (rs:=[6,8]) (by kernel_rfl) (by simp) ?_
   refine AllReadyH.cons rfl (fun K hK=>?_) (AllReadyH.cons rfl (fun K hK=>?_) AllReadyH.nil)
   ·go_simp
    go_at_call 65
    refine (HO.out _ (aK)).mono ?_
    rintro e v2 ⟨rfl,aF,bI⟩
    refine hK.out _ _ (aF.r0) (fun hHeld=>?_)
    clear hK K
    refine wpAnyH_take (i:=7) (v:=?_) rfl (by kernel_rfl) (by kernel_rfl) (by kernel_rfl) (fun _ _ _ h=>h) (Or.inl ⟨by kernel_rfl,?_⟩) (by assumption) ?_
    rotate_left 1
    ·(intro wq hSw;(try dsimp only at hSw);go_simp;first|done|with_reducible rfl)
    refine wpAnyH_ready (rs:=[8]) (by kernel_rfl) (by simp) ?_
    refine AllReadyH.cons rfl (fun K hK=>?_) AllReadyH.nil
    go_simp
    refine hK.out _ _ ((aF.alloc zeroN).r0) (fun hHeld=>?_)
    clear hK K
    have aP:(v2.alloc zeroN).heap[v2.heap.size]?=_:=heap_alloc_new v2 zeroN
    obtain⟨⟨z0,z1,z2,z3,z4⟩,zf⟩:=qaC aP
    have zf0:=zf 0
    have zf1:=zf 1
    have zf2:=zf 2
    have zf3:=zf 3
    have zf4:=zf 4
    have aV:=aF.alloc (.cells #[.int .i64 (k:Int),.int .i64 0,.string ⟨#[]⟩,.slice none 0 0,.slice none 0 0] 25)
    refine wpAnyH_ready (rs:=[9]) (by kernel_rfl) (by simp) ?_
    refine AllReadyH.cons rfl (fun K hK=>?_) AllReadyH.nil
    go_simp
    refine hK.out _ _ (aV.r0) (fun hHeld=>?_)
    clear hK K
    refine wpAnyH_done (by kernel_rfl) ?_ _
    go_simp
    go_wp2_with fail
    go_meet
    exact⟨v2.heap.size,rfl,cD.out v2 aF⟩
   ·go_simp
    refine hK.out _ _ ((aK.alloc zeroN).r0) (fun hHeld=>?_)
    clear hK K
    refine wpAnyH_ready (rs:=[6]) (by kernel_rfl) (by simp) ?_
    refine AllReadyH.cons rfl (fun K hK=>?_) AllReadyH.nil
    go_simp
    go_at_call 65
    refine (HO.out _ (aK.alloc zeroN)).mono ?_
    rintro e v2 ⟨rfl,aF,bI⟩
    refine hK.out _ _ (aF.r0) (fun hHeld=>?_)
    clear hK K
    refine wpAnyH_take (i:=7) (v:=?_) rfl (by kernel_rfl) (by kernel_rfl) (by kernel_rfl) (fun _ _ _ h=>h) (Or.inl ⟨by kernel_rfl,?_⟩) (by assumption) ?_
    rotate_left 1
    ·(intro wq hSw;(try dsimp only at hSw);go_simp;first|done|with_reducible rfl)
    have aP:=bI v1.heap.size _ (heap_alloc_new v1 zeroN)
    obtain⟨⟨z0,z1,z2,z3,z4⟩,zf⟩:=qaC aP
    have zf0:=zf 0
    have zf1:=zf 1
    have zf2:=zf 2
    have zf3:=zf 3
    have zf4:=zf 4
    have aV:=aF.laid5 aC.out (X:=v1.heap.size) (aK.ge) k
    refine wpAnyH_ready (rs:=[9]) (by kernel_rfl) (by simp) ?_
    refine AllReadyH.cons rfl (fun K hK=>?_) AllReadyH.nil
    go_simp
    refine hK.out _ _ (aV.r0) (fun hHeld=>?_)
    clear hK K
    refine wpAnyH_done (by kernel_rfl) ?_ _
    go_simp
    go_wp2_with fail
    go_meet
    exact⟨v1.heap.size,rfl,HX.out v1.heap.size v2 aK.ge aF aP⟩
  ·go_simp
   refine hK.out _ _ ((aU.alloc zeroN).r0) (fun hHeld=>?_)
   clear hK K
   refine wpAnyH_ready (rs:=[5]) (by kernel_rfl) (by simp) ?_
   refine AllReadyH.cons rfl (fun K hK=>?_) AllReadyH.nil
   go_simp
   go_at_call 66
   refine (HW.out _ (aU.alloc zeroN)).mono ?_
   rintro e v1 ⟨rfl,aK,bD⟩
   refine hK.out _ _ (aK.r0) (fun hHeld=>?_)
   clear hK K
   refine wpAnyH_ready (rs:=[6]) (by kernel_rfl) (by simp) ?_
   refine AllReadyH.cons rfl (fun K hK=>?_) AllReadyH.nil
   go_simp
   go_at_call 65
   refine (HO.out _ (aK)).mono ?_
   rintro e v2 ⟨rfl,aF,bI⟩
   refine hK.out _ _ (aF.r0) (fun hHeld=>?_)
   clear hK K
   refine wpAnyH_take (i:=7) (v:=?_) rfl (by kernel_rfl) (by kernel_rfl) (by kernel_rfl) (fun _ _ _ h=>h) (Or.inl ⟨by kernel_rfl,?_⟩) (by assumption) ?_
   rotate_left 1
   ·(intro wq hSw;(try dsimp only at hSw);go_simp;first|done|with_reducible rfl)
   have aP:=bI W1.heap.size _ (bD W1.heap.size _ (heap_alloc_new W1.drew zeroN))
   obtain⟨⟨z0,z1,z2,z3,z4⟩,zf⟩:=qaC aP
   have zf0:=zf 0
   have zf1:=zf 1
   have zf2:=zf 2
   have zf3:=zf 3
   have zf4:=zf 4
   have aV:=aF.laid5 aC.out (X:=W1.heap.size) (Nat.le_refl _) k
   refine wpAnyH_ready (rs:=[9]) (by kernel_rfl) (by simp) ?_
   refine AllReadyH.cons rfl (fun K hK=>?_) AllReadyH.nil
   go_simp
   refine hK.out _ _ (aV.r0) (fun hHeld=>?_)
   clear hK K
   refine wpAnyH_done (by kernel_rfl) ?_ _
   go_simp
   go_wp2_with fail
   go_meet
   exact⟨W1.heap.size,rfl,HX.out W1.heap.size v2 (Nat.le_refl _) aF aP⟩
 case rest=>
  obtain⟨X,rfl,hX,bR,aI⟩:=hcut
  clear HW HO HX cD aU r0 r3' ra3 raf3 cA cB cC cN
  have HG:=Lib.hid bR
  have bB:=Lib.hid aI
  have bC:=hidF hX
  have aW:X<wc.heap.size:=(Array.getElem?_eq_some_iff.1 aI).1
  obtain⟨⟨x0,-,-,-,-⟩,-⟩:=qaC aI
  have aX:Hid (∀ w,Calls Tryz.prog 67 #[.int .i64 (k:Int)] w fun e w'=>e=.returned (.int .i32 (poF (k:Int)))/\w'=w):=fun w=>qxT k w
  by_cases hpo:poF (k:Int)=actI act
  case neg=>
   have cR:(poF (k:Int)==actI act)=false:=by simp[hpo]
   have HD:=Lib.hid (qcG HG.out.rdr 2)
   have HP:Hid (qnF (m+1) R bk wv ws a w (qaI M ws (m+1) act d a c) (.panicked (qbV 2 a)) wc):=by
    obtain⟨hq,hs⟩:=aN.out
    exact⟨aJ.out.trans HG.out.near,.inr ⟨2,a,xfA (by omega) hc2 hq (by rw[hs,aO.out];exact hpo),rfl⟩⟩
   clear hpo bR aI HG bB HR aC aJ aT aM aL hI aN aO hX aW ha
   generalize poF (k:Int)=po at *
   generalize actI act=ai at *
   go_wp2_with fail
   refine (aX.out _).mono ?_
   rintro e w5 ⟨rfl,rfl⟩
   go_wp2_with fail
   refine HD.out.mono ?_
   rintro e w6 ⟨rfl,rfl⟩
   exact⟨rfl,HP.out⟩
  have cR:(poF (k:Int)==actI act)=true:=by simp[hpo]
  have bD:1<=k:=by
   rcases Nat.eq_zero_or_pos k with h0|h0
   ·exfalso;rw[h0]at hpo;unfold poF actI at hpo;cases act <;> simp at hpo
   ·exact h0
  have aY:Hid (qaI M ws (m+1) act d a c=qcP M (fun b=>qaI M ws m b (d+1)) ws (prt k) ⟨(k:Int),0,ByteArray.empty,[],[]⟩ (if k<=4 then a else a+1) (c+1)):=by
   obtain⟨hq,hs⟩:=aN.out
   show _=_
   rw[xfB (by omega) hc2 hq (by rw[hs,aO.out];exact hpo),hs,aO.out]
  have cE:Hid (k<=3->∃ (h:a<ws.length) (l:Int × Int × ByteArray),leafW M ws[a]=some l):=fun h3=>by
   obtain⟨hq,hs⟩:=aN.out
   obtain⟨l,hl⟩:=xhS (M:=M) (s:=s) (by rw[aO.out];exact h3) (by rw[aO.out];exact bD)
   exact⟨hq,l,by rw[hs];exact hl⟩
  clear hpo bR aI hX
  have bE:Hid (∀ (V:World) (a1:Nat),a1=(if k<=4 then a else a+1)->Near R wc V->Rdr V R bk wv ws a1 (c+1)->NAt M B R X V.heap.size w.heap.size bk m k wv ws w W1 (V.drew.iter (bs (prt k)) 0) act d a c 0 ⟨(k:Int),0,ByteArray.empty,[],[]⟩ a1 (c+1) none 0 none 0):=by
   intro V a1 bS hn hr
   have cS:=aN.out
   obtain⟨hq,-⟩:=cS
   have cF:a<=a1/\a1<=a+1:=by rw[bS];split <;> omega
   have cG:Below V.heap.size V (V.drew.iter (bs (prt k)) 0):=(Below.refl V.heap.size V).drew.alloc (Nat.le_refl _) _
   have aG:Near R wc (V.drew.iter (bs (prt k)) 0):=hn.trans (Near.of_below cG)
   have cT:X<V.heap.size:=Nat.lt_of_lt_of_le aW hn.size
   have cH:R<X:=by have:=bC.out;have:=aC.out.lt;omega
   have cU:(V.drew.iter (bs (prt k)) 0).heap[X]?=some (.cells #[.int .i64 (k:Int),.int .i64 0,.string ⟨#[]⟩,.slice none 0 0,.slice none 0 0] 25 (0,0)):=(aG.block X aW (by omega)).trans bB.out
   have hz:w.heap.size<W1.heap.size:=by rw[cO.out];omega
   have cV:ManyN R X V.heap.size m W1 (V.drew.iter (bs (prt k)) 0) (k:Int) 0 ByteArray.empty [] [] (.slice none 0 0) (.slice none 0 0):=
    ⟨HG.out.near.trans aG,cU,World.ownsRow_nil _ _ _ _,fun _ h=>(by cases h),⟨[],World.ownsRow_nil _ _ _ _,fun j h=>absurd h (Nat.not_lt_zero _)⟩,fun b hb=>(by cases hb),⟨by omega,by show V.heap.size<(V.heap.push _).size;simp⟩⟩
   refine⟨⟨ManyNP.start cV,hr.same cG,⟨a,c+1,aC.out⟩,aM.out,aL.out,cH,bC.out,by simp,cT,World.iter_heap V.drew _ _⟩,Nat.zero_le _,?_,rfl,by omega,by omega,fun _ h3=>?_,?_,⟨hz,by omega,rfl⟩,aJ.out,HR.out⟩
   ·rw[List.drop_zero,aY.out,bS]
   ·have e:a1=a:=by rw[bS,if_pos (by omega)]
    subst e
    exact cE.out h3
   ·have h1:=(HG.out.near.trans aG).block w.heap.size hz (by omega)
    exact h1.trans aT.out
  obtain⟨b0,b1,-,-⟩:=HG.out.rdr.book k aD
  have r0:=HG.out.r0
  have cW:=HG.out.rdr.book.lt
  have cI:(k:Int)<44:=by omega
  have bM:Hid (∀ j,Calls Tryz.prog 68 #[.pointer (some ⟨R,0,none⟩)] (wc.drewN j) fun e w'=>(∃ x,e=.returned (.string x))/\Near R wc w' /\ Rdr w' R bk wv ws (a+1) (c+1)):=fun j=>by
   obtain⟨hq,-⟩:=aN.out
   refine (qfL (HG.out.rdr.drewN j) hq).mono ?_
   rintro e w' ⟨rfl,hn,hr⟩
   exact⟨⟨_,rfl⟩,(qaK (Near.refl R wc) j).trans hn,hr⟩
  have bF:Hid (∀ (V:World) (a1:Nat),Near R wc V->Rdr V R bk wv ws a1 (c+1)->V.cell? ⟨R,0,none⟩=some (.pointer (some ⟨bk,0,none⟩))/\V.cell? ⟨X,0,none⟩=some (.int .i64 (k:Int))/\V.cell? ⟨bk,k*4+1,none⟩=some (.string (bs (prt k)))):=fun V a1 hn hr=>by
   have cH:R<X:=by have:=bC.out;have:=aC.out.lt;omega
   exact⟨hr.cells.1.1,(qaC ((hn.block X aW (by omega)).trans bB.out)).1.1,(hr.book k aD).2.1⟩
  have bG:=hidF (xeY k aD)
  have aB:Hid (qhC M m/\3000<=M):=⟨hI,hM⟩
  have cJ:=hidF cK
  have bN:Hid (∀ j,Rdr (wc.drewN j) R bk wv ws a (c+1)):=fun j=>HG.out.rdr.drewN j
  clear hI hM cK aW cE aY HG bB HR aC aJ aT aM aL aN aO bC ha bJ bV cW
  generalize poF (k:Int)=po at *
  generalize actI act=ai at *
  by_cases hk4:k<=4
  ·have bO:(wrd k).toList=[]:=by rw[ByteArray.toList_eq];exact List.eq_nil_of_length_eq_zero (by have:=bG.out.2 hk4;simpa using this)
   have cX:((wrd k).toList==[])=true:=by rw[bO];rfl
   go_wp2_with fail
   refine (aX.out _).mono ?_
   rintro e w5 ⟨rfl,aZ⟩
   rw[aZ]
   clear aZ
   go_wp2_with fail
   refine (qbM _ _ _).mono ?_
   rintro e w6 ⟨rfl,bA⟩
   rw[bA]
   clear bA aX
   go_wp2_with fail
   go_quiet (fail)
   go_wp2_with fail
   obtain⟨V,hV⟩:∃ V,V=wc.drewN nq:=⟨_,rfl⟩
   have aG:Near R wc V:=by rw[hV];exact qaK (Near.refl R wc) nq
   have aQ:Rdr V R bk wv ws a (c+1):=by rw[hV];exact bN.out nq
   rw[<- hV]
   clear hV bN bM b0 b1 r0 x0
   obtain⟨q0,q1,q2⟩:=bF.out V _ aG aQ
   have HJ:=Lib.hid (bE.out V _ (by first|rw[if_pos hk4]|rw[if_neg hk4]) aG aQ)
   clear bE bF aG aQ bG
   go_region
   go_wp2_with fail
   clear q0 q1 q2
   go_loopw [9] (fun _ wr=>∃ (pos:Nat) (n1:Nd (T m)) (a1 c1:Nat) (na:Option Addr) (nc:Nat) (ka:Option Addr) (kc:Nat),NAt M B R X V.heap.size w.heap.size bk m k wv ws w W1 wr act d a c pos n1 a1 c1 na nc ka kc) (fun _ wr=>(prt k).length - wr.iterPos V.heap.size)
   case atStart=>exact⟨0,_,_,_,_,_,_,_,HJ.out⟩
   case round=>
    obtain⟨pos,n1,a1,c1,na,nc,ka,kc,hj⟩:=hrel
    have cF:=hj.le
    have aH:=hj.st.iter
    have aA:=iterPos_of aH
    clear HJ
    by_cases hp:pos<(prt k).length
    ·have aR:=fun ty=>Lib.run_next_ascii_at (P:=Tryz.prog) wr V.heap.size (bs (prt k)) pos ty aH (by rw[qaJ];exact hp) (by rw[qhT];exact qjF k aD _ (List.getElem_mem hp))
     rw[qhT]at aR
     have HC:=Lib.hid (hj.step aB.out.2 aB.out.1 aD hd (by have:=cJ.out;omega) hp)
     have HI:Hid (wr.iterPos V.heap.size=pos):=aA
     clear hj aH aA
     go_wp2_with fail
     refine HC.out.mono ?_
     rintro e w2 (⟨rfl,n2,a2,c2,na2,nc2,ka2,kc2,aS⟩|⟨code,at',rfl,bT,bU⟩)
     ·have bP:=Lib.hid aS
      have bQ:Hid (w2.iterPos V.heap.size=pos+1):=iterPos_of aS.st.iter
      clear aS HC aR
      go_wp2_with fail
      go_roundw
      case rel=>exact⟨pos+1,_,_,_,_,_,_,_,bP.out⟩
      case measure=>rw[bQ.out,HI.out];omega
     ·exact⟨rfl,bU,.inr ⟨code,at',bT,rfl⟩⟩
    ·have aR:=fun ty=>Lib.run_next_end_at (P:=Tryz.prog) wr V.heap.size (bs (prt k)) pos ty aH (by rw[qaJ];exact hp)
     have HE:=Lib.hid (hj.out hp)
     obtain⟨⟨x0,x1,x2,x3,x4⟩,-⟩:=qaC hj.st.many.box
     obtain⟨⟨z0,z1,z2,z3,z4⟩,zf⟩:=qaC hj.zero
     have zf0:=zf 0
     have zf1:=zf 1
     have zf2:=zf 2
     have zf3:=zf 3
     have zf4:=zf 4
     have cY:¬ w.heap.size=X:=by have:=hj.zx;have:=hj.st.wx;omega
     generalize n1.names.length=nl at *
     generalize n1.kids.length=kl at *
     clear hj aH aA zf aB
     go_wp2_with fail
     refine bodyPost_ret (by simp[results,Tryz.results51,go_sem,z0,z1,z2,z3,z4];rfl) rfl ?_
     exact HE.out
  ·have bO:¬ (wrd k).toList=[]:=by
    rw[ByteArray.toList_eq];intro e
    have h1:(wrd k).data.toList.length=0:=by rw[e];rfl
    have h2:(wrd k).data.toList.length=(wrd k).size:=by simp
    exact hk4 (bG.out.1 (by omega))
   have cX:((wrd k).toList==[])=false:=by simpa using bO
   go_wp2_with fail
   refine (aX.out _).mono ?_
   rintro e w5 ⟨rfl,aZ⟩
   rw[aZ]
   clear aZ
   go_wp2_with fail
   refine (qbM _ _ _).mono ?_
   rintro e w6 ⟨rfl,bA⟩
   rw[bA]
   clear bA aX
   go_wp2_with fail
   go_quiet (fail)
   go_wp2_with fail
   refine (bM.out nq).mono ?_
   rintro e V ⟨⟨x,rfl⟩,aG,aQ⟩
   clear bN bM b0 b1 r0 x0
   go_wp2_with fail
   obtain⟨q0,q1,q2⟩:=bF.out V _ aG aQ
   have HJ:=Lib.hid (bE.out V _ (by first|rw[if_pos hk4]|rw[if_neg hk4]) aG aQ)
   clear bE bF aG aQ bG
   go_region
   go_wp2_with fail
   clear q0 q1 q2
   go_loopw [9] (fun _ wr=>∃ (pos:Nat) (n1:Nd (T m)) (a1 c1:Nat) (na:Option Addr) (nc:Nat) (ka:Option Addr) (kc:Nat),NAt M B R X V.heap.size w.heap.size bk m k wv ws w W1 wr act d a c pos n1 a1 c1 na nc ka kc) (fun _ wr=>(prt k).length - wr.iterPos V.heap.size)
   case atStart=>exact⟨0,_,_,_,_,_,_,_,HJ.out⟩
   case round=>
    obtain⟨pos,n1,a1,c1,na,nc,ka,kc,hj⟩:=hrel
    have cF:=hj.le
    have aH:=hj.st.iter
    have aA:=iterPos_of aH
    clear HJ
    by_cases hp:pos<(prt k).length
    ·have aR:=fun ty=>Lib.run_next_ascii_at (P:=Tryz.prog) wr V.heap.size (bs (prt k)) pos ty aH (by rw[qaJ];exact hp) (by rw[qhT];exact qjF k aD _ (List.getElem_mem hp))
     rw[qhT]at aR
     have HC:=Lib.hid (hj.step aB.out.2 aB.out.1 aD hd (by have:=cJ.out;omega) hp)
     have HI:Hid (wr.iterPos V.heap.size=pos):=aA
     clear hj aH aA
     go_wp2_with fail
     refine HC.out.mono ?_
     rintro e w2 (⟨rfl,n2,a2,c2,na2,nc2,ka2,kc2,aS⟩|⟨code,at',rfl,bT,bU⟩)
     ·have bP:=Lib.hid aS
      have bQ:Hid (w2.iterPos V.heap.size=pos+1):=iterPos_of aS.st.iter
      clear aS HC aR
      go_wp2_with fail
      go_roundw
      case rel=>exact⟨pos+1,_,_,_,_,_,_,_,bP.out⟩
      case measure=>rw[bQ.out,HI.out];omega
     ·exact⟨rfl,bU,.inr ⟨code,at',bT,rfl⟩⟩
    ·have aR:=fun ty=>Lib.run_next_end_at (P:=Tryz.prog) wr V.heap.size (bs (prt k)) pos ty aH (by rw[qaJ];exact hp)
     have HE:=Lib.hid (hj.out hp)
     obtain⟨⟨x0,x1,x2,x3,x4⟩,-⟩:=qaC hj.st.many.box
     obtain⟨⟨z0,z1,z2,z3,z4⟩,zf⟩:=qaC hj.zero
     have zf0:=zf 0
     have zf1:=zf 1
     have zf2:=zf 2
     have zf3:=zf 3
     have zf4:=zf 4
     have cY:¬ w.heap.size=X:=by have:=hj.zx;have:=hj.st.wx;omega
     generalize n1.names.length=nl at *
     generalize n1.kids.length=kl at *
     clear hj aH aA zf aB
     go_wp2_with fail
     refine bodyPost_ret (by simp[results,Tryz.results51,go_sem,z0,z1,z2,z3,z4];rfl) rfl ?_
     exact HE.out
end Go.Proofs.YtelogmjfekhmpaaGreatDoor
