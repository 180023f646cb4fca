import Derived.Test.YtelogmjfekhmpaaGreatDoorNW1
namespace Go.Proofs.YtelogmjfekhmpaaGreatDoor
set_option maxRecDepth 100000
set_option maxHeartbeats 16000000
open Go.RowKit
theorem qfZ {α:Type} (lk:α->Nat) (n:Nd α):∀ (ps:List UInt8) (ns:List ByteArray) (ks:List α) (k:Nat),k<=lenP lk n ps ns ks k:=by
 intro ps
 induction ps with
 | nil=>intro ns ks k;rw[lenP.eq_def];exact Nat.le_refl _
 | cons p ps ih=>
  intro ns ks k
  rw[lenP.eq_def];dsimp only
  split
  ·have:=ih ns ks (wk k (leafL n.sort n.num n.text).length);have:=wk_le k (leafL n.sort n.num n.text).length;omega
  split
  ·have:=ih ns ks (wk k (Lib.itoa n.num).length);have:=wk_le k (Lib.itoa n.num).length;omega
  split
  ·have:=ih ns ks (wk k n.text.size);have:=wk_le k n.text.size;omega
  split
  ·have:=ih ns ks (wk (lenFs lk n.names n.kids k) 3);have:=wk_le (lenFs lk n.names n.kids k) 3;have:=qxC lk n.names n.kids k;omega
  split
  ·cases ns with
   | nil=>exact Nat.le_refl _
   | cons a q=>have:=ih q ks (wk k a.size);have:=wk_le k a.size;show k<=lenP lk n ps q ks (wk k a.size);omega
  ·cases ks with
   | nil=>exact Nat.le_refl _
   | cons x q=>have:=ih ns q (wk k (lk x));have:=wk_le k (lk x);show k<=lenP lk n ps ns q (wk k (lk x));omega
theorem prt_T:∀ k,k<44->84∈prt k->k≠24/\preL k=[84]:=by decide
theorem prt_n:∀ k,k<44->35∈prt k->k≠24/\(preL k=[35]∨preL k=[78,35]):=by decide
theorem prt_F:∀ k,k<44->70∈prt k->k=24:=by decide
theorem xhK:∀ k,k<44->0<=lst k/\mst k<=99:=by decide
theorem qlL {α:Type} (po:α->Int) (n:Nd α) (k:Nat) (hk:n.sort=(k:Int)) (hj:justB po n=true):k<44/\(84∈prt k->qaQ n.sort n.num n.text [] 0=true)/\(35∈prt k->0<=n.num/\n.num<=99)/\(70∈prt k->n.names.length=n.kids.length):=by
 have hr:1<=n.sort/\n.sort<=43:=by
  have h:=hj
  unfold justB at h;simp only[Bool.and_eq_true,decide_eq_true_eq]at h;exact h.1
 have aA:k<44:=by omega
 have aB:n.sort.toNat=k:=by omega
 refine⟨aA,fun h=>?_,fun h=>?_,fun h=>?_⟩
 ·obtain⟨aC,hp⟩:=prt_T k aA h
  rw[qfC po n hr.1 hr.2 (by omega),aB,hp]at hj
  simp only[preC,Bool.and_eq_true]at hj
  exact hj.1.1
 ·obtain⟨aC,hp⟩:=prt_n k aA h
  rw[qfC po n hr.1 hr.2 (by omega),aB]at hj
  have:=xhK k aA
  rcases hp with hp|hp <;> rw[hp]at hj <;> simp only[preC,Bool.and_eq_true,decide_eq_true_eq,aB]at hj
  ·have:=hj.1.1.1;omega
  ·have:=hj.1.1.1;omega
 ·have aC:=prt_F k aA h
  rw[qdW po n (by omega)]at hj
  simp only[Bool.and_eq_true]at hj
  have:=hj.1;unfold qeN at this;simp only[Bool.and_eq_true,beq_iff_eq]at this;exact this.1
theorem Wrt.iter {B wb bk ib:Nat} {w0 w:World} {v:Value} {l:List UInt8} {s:ByteArray} {pos:Nat} (h:Wrt B wb bk w0 w v l) (hi:w.heap[ib]?=some (.stringIter s pos)) (h0:w0.heap.size<=ib) (hB:B<=w0.heap.size) (pos':Nat):Wrt B wb bk w0 (w.iterAt ib s pos') v l:=by
 have aA:wb≠ib:=by
  intro e;have:=h.box;rw[e,hi]at this;cases this
 refine⟨⟨h.own.1,?_⟩,Lib.below_iterAt h.below (by omega) _ _,by rw[Lib.iterAt_size];exact h.le,?_,(Lib.iterAt_other w ib wb _ _ aA).trans h.box,h.ge⟩
 ·rcases h.own.2 with hn|⟨g,cap,cur,hv,aB,hg,hr⟩
  ·exact .inl hn
  ·refine .inr ⟨g,cap,cur,hv,aB,?_,hr⟩
   rw[Lib.iterAt_other w ib g _ _ (fun e=>by rw[e,hi]at hg;cases hg)]
   exact hg
 ·intro k o hk hb ho
  have aC:k<w0.heap.size:=(Array.getElem?_eq_some_iff.1 hk).1
  rw[Lib.iterAt_other w ib k _ _ (by omega)]
  exact h.kept k o hk hb ho
structure NodAt (m B wb bk:Nat) (W0 wr:World) (n:Nd (T m)) (d:Int) (k pos ib L:Nat) (a b v:Value) (l:List UInt8) (ns:List ByteArray) (ks:List (T m)):Prop where
 wrt:Wrt B wb bk W0 wr v l
 iter:wr.heap[ib]?=some (.stringIter (bs (prt k)) pos)
 le:pos<=(prt k).length
 names:StrsIn (fun b=>b<B) W0 ns a
 capn:CapOk a
 kids:RowIn (fun b=>b<B) W0 (NodeIn (fun b=>b<B) W0 m) ks b
 capk:CapOk b
 len:lenP (lenN m) n ((prt k).drop pos) ns ks l.length=L
 fit:fitP (poT m) ((prt k).drop pos) ns ks
 good:ks.all (fun x=>goodN m x d)=true
theorem xeL (m:Nat) (hn:NodeW m) (B wb bk:Nat) (w:World) (v:Value) (l:List UInt8) (n:Nd (T m)) (na ka:Option Addr) (nc kc:Nat) (d:Int) (h:Wrt B wb bk w w v l) (hw0:(Lit.int .i64 n.sort).wf=true) (hw1:(Lit.int .i64 n.num).wf=true) (hx:n.text.size<=maxLen)
  (h3:StrsIn (fun b=>b<B) w n.names (.slice na n.names.length nc)) (hc3:n.names.length<=nc) (h4:RowIn (fun b=>b<B) w (NodeIn (fun b=>b<B) w m) n.kids (.slice ka n.kids.length kc)) (hc4:n.kids.length<=kc) (hbk:Book w bk) (hbB:bk<B)
  (hj:justB (poT m) n=true) (hg:n.kids.all (fun x=>goodN m x d)=true) (hl:wk l.length (lenF (lenN m) n)<=800000) (hT:Tens B w) :
  Calls Tryz.prog 70 #[.pointer (some ⟨wb,0,none⟩),.agg #[.int .i64 n.sort,.int .i64 n.num,.string n.text,.slice na n.names.length nc,.slice ka n.kids.length kc]] w (WPost B wb bk w (wk l.length (lenF (lenN m) n))):=by
 obtain⟨k,hk⟩:∃ k:Nat,n.sort=(k:Int):=⟨n.sort.toNat,by
  have h:=hj
  unfold justB at h;simp only[Bool.and_eq_true,decide_eq_true_eq]at h;omega⟩
 obtain⟨bN,cO,cP,cQ⟩:=qlL (poT m) n k hk hj
 have bE:n.sort.toNat=k:=by omega
 obtain⟨bX,bY⟩:=xfP (poT m) (lenN m) n hj l.length
 rw[bE]at bX bY
 obtain⟨W1,cD⟩:∃ W1,W1=w.alloc (.cells #[.int .i64 n.sort,.int .i64 n.num,.string n.text,.slice na n.names.length nc,.slice ka n.kids.length kc] 25):=⟨_,rfl⟩
 obtain⟨W2,cE⟩:∃ W2,W2=(W1.alloc (.cells #[.string (wrd k),.string (bs (prt k)),.int .i64 (lst k),.int .i64 (mst k)] 98)).drew:=⟨_,rfl⟩
 have cF:Wrt B wb bk w W1 v l:=by rw[cD];exact h.alloc _
 have cG:Wrt B wb bk w W2 v l:=by rw[cE];exact (cF.alloc _).drew
 have dR:=h.lt
 have dY:=h.le
 have cS:W1.heap.size=w.heap.size+1:=by rw[cD];simp
 have dE:W2.heap.size=w.heap.size+2:=by rw[cE];show (W1.heap.push _).size=_;simp;exact cS
 have bP:W1.heap[w.heap.size]?=some (.cells #[.int .i64 n.sort,.int .i64 n.num,.string n.text,.slice na n.names.length nc,.slice ka n.kids.length kc] 25 (0,0)):=by rw[cD];exact heap_alloc_last _ _
 have bM:W2.heap[w.heap.size]?=some (.cells #[.int .i64 n.sort,.int .i64 n.num,.string n.text,.slice na n.names.length nc,.slice ka n.kids.length kc] 25 (0,0)):=by
  rw[cE];exact (Below.heap_alloc _ _ _ (by show w.heap.size<W1.heap.size;omega)).trans bP
 have bF:W2.heap[w.heap.size+1]?=some (.cells #[.string (wrd k),.string (bs (prt k)),.int .i64 (lst k),.int .i64 (mst k)] 98 (0,0)):=by
  rw[cE,<- cS];exact heap_alloc_last W1 _
 obtain⟨b0,b1,b2,b3⟩:=hbk k bN
 have dS:=hbk.lt
 obtain⟨r0,-,-⟩:=h.cells
 have y0:W2.cell? ⟨w.heap.size+1,0,none⟩=some (.string (wrd k)):=by simp[World.cell?,bF]
 rw[hk]at cD
 have dF:=hidF cD
 have dG:=hidF cE
 have cT:=hidF cG
 have dH:=hidF bX
 have dI:=hidF bY
 have dZ:Hid (NodeW m):=hn
 have dJ:Hid (∀ (wr:World) (v':Value) (l':List UInt8),Wrt B wb bk w wr v' l'->70∈prt k->lenFs (lenN m) n.names n.kids l'.length<=800000 ->
   Calls Tryz.prog 95 #[.pointer (some ⟨wb,0,none⟩),.agg #[.int .i64 (k:Int),.int .i64 n.num,.string n.text,.slice na n.names.length nc,.slice ka n.kids.length kc]] wr (WPost B wb bk wr (wk (lenFs (lenN m) n.names n.kids l'.length) 3))):=by
  intro wr v' l' bO hF dC
  have:=qzL m hn B wb bk wr v' l' n na ka nc kc d bO.here (h3.keep bO.same (fun _ h=>h)) (h4.keepN bO.same (fun _ h=>h)) (cQ hF) (hbk.keep (bO.below.block bk hbB)) hbB hg dC (hT.on bO.below)
  rw[hk]at this
  exact this
 have HK:Hid (∀ (wr:World) (v':Value) (l':List UInt8) (t:T m) (c0 c1 c2 c3 c4:Value),Wrt B wb bk w wr v' l'->NodeIn (fun b=>b<B) wr m t c0 c1 c2 c3 c4->goodN m t d=true->wk l'.length (lenN m t)<=800000 ->
   Calls Tryz.prog 70 #[.pointer (some ⟨wb,0,none⟩),.agg #[c0,c1,c2,c3,c4]] wr (WPost B wb bk wr (wk l'.length (lenN m t)))):=by
  intro wr v' l' t c0 c1 c2 c3 c4 bO bD bC dC
  exact hn B wb bk wr v' l' t _ _ _ _ _ d bO.here bD (hbk.keep (bO.below.block bk hbB)) hbB bC dC (hT.on bO.below)
 have dK:Hid (∀ (wr:World) (v':Value) (l':List UInt8),Wrt B wb bk w wr v' l'->84∈prt k->Calls Tryz.prog 92 #[.agg #[.int .i64 (k:Int),.int .i64 n.num,.string n.text,.slice none 0 0,.slice none 0 0]] wr fun e w'=>e=.returned (.string (bs (leafL n.sort n.num n.text)))/\Below wr.heap.size wr w'):=by
  intro wr v' l' bO dD
  have dT:TensIn wr:=fun w2 h2=>(hT.on bO.below) w2 (h2.mono bO.le)
  have:=qqS 1 (fun _=>False) (leafT n.sort n.num n.text) _ _ _ _ _ wr (qwQ _ wr n.sort n.num n.text hw0 hw1 hx) (fun _ h=>h.elim) dT
  have e:textF 1 (leafT n.sort n.num n.text)=bs (leafL n.sort n.num n.text):=by
   unfold textF;rw[if_pos (by rw[xiY];exact cO dD)];rfl
  rw[e,hk]at this
  rw[hk]
  exact this
 have dL:Hid (∀ w,Calls Tryz.prog 93 #[.agg #[.int .i64 (k:Int),.int .i64 n.num,.string n.text,.slice na n.names.length nc,.slice ka n.kids.length kc]] w _):=fun w=>qnM k n.num n.text na ka n.names.length n.kids.length nc kc w
 have dM:Hid (35∈prt k->∀ w,Calls Tryz.prog 94 #[.int .i64 n.num] w fun e w'=>e=.returned (.string (bs (Lib.itoa n.num)))/\w'=w):=by
  intro hN w
  obtain⟨h0,eA⟩:=cP hN
  have:=Tryz.strconv_Itoa_small n.num.toNat (by omega) w
  rw[show ((n.num.toNat:Nat):Int)=n.num by omega]at this
  have e:Lib.itoa n.num=Lib.decDigits n.num.toNat:=by unfold Lib.itoa;rw[if_neg (by omega)]
  rw[e]
  exact this
 have dN:Hid (StrsIn (fun b=>b<B) w n.names (.slice na n.names.length nc)/\RowIn (fun b=>b<B) w (NodeIn (fun b=>b<B) w m) n.kids (.slice ka n.kids.length kc)/\n.names.length<=nc/\n.kids.length<=kc/\n.kids.all (fun x=>goodN m x d)=true):=⟨h3,h4,hc3,hc4,hg⟩
 rw[hk]
 have dO:=hidF hk
 have cV:Hid (wk l.length (lenF (lenN m) n)<=800000):=hl
 have cH:Hid ((k<5->(wrd k).size=0)/\(5<=k->1<=(wrd k).size/\(wrd k).size<=6)):=qlC k bN
 clear h3 h4 hbk hn hT hj hg cO cP cQ bX bY cF cG cD cE hc3 hc4 bE hl hw0 hw1 hx hk
 by_cases hk5:k<5
 ·have cU:((wrd k).toList==[])=true:=by
   have h0:=cH.out.1 hk5
   have:(wrd k).toList=[]:=by rw[ByteArray.toList_eq];exact List.eq_nil_of_length_eq_zero (by simpa using h0)
   rw[this];rfl
  have dU:(wrd k).toList=[]:=by simpa using cU
  have bU:=cT
  have cI:=hidF bM
  have cW:=hidF bF
  have cX:Hid (w.heap.size+2<=W2.heap.size):=by show _<=_;omega
  have cY:Hid (l.length=wk0 k l.length):=by show _=_;unfold wk0;rw[if_pos (cH.out.1 hk5)]
  clear bP bM bF cU dE
  go_enter Tryz.func70,Tryz.ntmps70
  go_wp2_with fail
  go_region
  rw[<- dF.out,<- dG.out]
  clear b0 b1 b2 b3 r0 cS
  have bG:=bU.out
  have cZ:B<=W2.heap.size:=bG.le
  have dV:w.heap.size+2<=W2.heap.size:=cX.out
  obtain⟨p0,p1,p2,p3,p4⟩:=qcF cI.out
  have p5:W2.cell? ⟨w.heap.size+1,1,none⟩=some (.string (bs (prt k))):=by simp[World.cell?,cW.out]
  have HJ:Hid (∀ j,NodAt m B wb bk W2 ((W2.drewN j).iter (bs (prt k)) 0) n d k 0 W2.heap.size (wk l.length (lenF (lenN m) n)) (.slice na n.names.length nc) (.slice ka n.kids.length kc) v l n.names n.kids):=by
   intro j
   obtain⟨g3,g4,g5,g6,g7⟩:=dN.out
   refine⟨?_,World.iter_heap (W2.drewN j) _ _,Nat.zero_le _,g3.keep bG.same (fun _ h=>h),⟨_,_,_,rfl,g5⟩,g4.keepN bG.same (fun _ h=>h),⟨_,_,_,rfl,g6⟩,?_,?_,g7⟩
   ·have h0:Wrt B wb bk W2 (W2.drewN j) v l:=⟨bG.own,⟨rfl,rfl,rfl,Nat.le_refl _,fun _ _=>rfl⟩,bG.le,fun _ _ h _ _=>h,bG.box,bG.ge⟩
    exact h0.alloc _
   ·have h0:=dH.out
    rw[<- cY.out]at h0
    rw[List.drop_zero];exact h0
   ·rw[List.drop_zero];exact dI.out
  clear bG
  go_wp2_with fail
  go_quiet (fail)
  go_wp2_with fail
  go_loopw [5,6] (fun a b wr=>∃ pos v' l' ns ks,NodAt m B wb bk W2 wr n d k pos W2.heap.size (wk l.length (lenF (lenN m) n)) a b v' l' ns ks) (fun _ _ wr=>(prt k).length - wr.iterPos W2.heap.size)
  case atStart=>exact⟨0,_,_,_,_,HJ.out _⟩
  case round=>
   obtain⟨pos,v',l',ns,ks,hj⟩:=hrel
   have dW:=hj.le
   have bH:=hj.iter
   by_cases hp:pos<(prt k).length
   ·have aC:=fun ty=>Lib.run_next_ascii_at (P:=Tryz.prog) wr W2.heap.size (bs (prt k)) pos ty bH (by rw[qaJ];exact hp) (by rw[qhT];exact qjF k bN _ (List.getElem_mem hp))
    rw[qhT]at aC
    obtain⟨V,hV⟩:∃ V,V=wr.iterAt W2.heap.size (bs (prt k)) (pos+1):=⟨_,rfl⟩
    rw[<- hV]at aC
    have bQ:Wrt B wb bk W2 V v' l':=by rw[hV];exact hj.wrt.iter bH (Nat.le_refl _) cZ _
    have cJ:V.heap[W2.heap.size]?=some (.stringIter (bs (prt k)) (pos+1)):=by rw[hV];exact Lib.iterAt_heap _ _ _ _ _ bH
    have cK:=bQ.kept w.heap.size _ cI.out (by simp;omega) (fun c fz e=>by cases e)
    obtain⟨z0,z1,z2,z3,z4⟩:=qcF cK
    rw[dO.out]at z0
    have aX:=List.drop_eq_getElem_cons hp
    have aH:=List.getElem_mem hp
    have aA:=hj.len
    rw[aX]at aA
    have aB:=hj.fit
    rw[aX]at aB
    obtain⟨xa,xl,xc,rfl,bZ⟩:=hj.capn
    obtain⟨ya,yl,yc,rfl,cA⟩:=hj.capk
    have HI:Hid (wr.iterPos W2.heap.size=pos):=iterPos_of bH
    have aP:=hidF bQ
    have bT:=hidF (bQ.from bU.out)
    have aE:=hidF hj
    have dA:wk l.length (lenF (lenN m) n)<=800000:=cV.out
    have aQ:Hid (∀ (w6:World) (v6:Value) (l6:List UInt8),Wrt B wb bk V w6 v6 l6->Wrt B wb bk W2 w6 v6 l6/\w6.heap[W2.heap.size]?=some (.stringIter (bs (prt k)) (pos+1))/\w6.iterPos W2.heap.size=pos+1):=by
     intro w6 v6 l6 h6
     have cL:=h6.kept W2.heap.size _ cJ (by simp;omega) (fun c fz e=>by cases e)
     exact⟨h6.from bQ,cL,iterPos_of cL⟩
    have aW:=fun q=>qfZ (lenN m) n ((prt k).drop (pos+1)) ns ks q
    clear hj bH hV bQ cJ cK aX
    rcases quS k bN _ aH with hq|hq|hq|hq|hq|hq|hq|hq
    ·rw[hq]at aA aB aC aH
     have aR:∀ ty,(Instr.next (.pointer (some ⟨W2.heap.size,0,none⟩)) true ty).run Tryz.prog wr=.ok (.tuple #[.bool true,.int .i64 (pos:Int),.int .i32 84]) V:=aC
     rw[lp_T]at aA
     rw[fp_O _ (.inl rfl)]at aB
     have aI:=aW (wk l'.length (leafL n.sort n.num n.text).length)
     rw[aA]at aI
     have aS:=wk_le l'.length (leafL n.sort n.num n.text).length
     have aJ:=hidF aA
     have aD:=hidF aB
     have dB:l'.length+1+(bs (leafL n.sort n.num n.text)).size<=900000:=by rw[qaJ];omega
     clear aA aB aC aW aI aS hq
     go_wp2_with fail
     refine (dL.out _).mono ?_
     rintro e w4 ⟨rfl,cB⟩
     have bR:=hidF (dK.out w4 v' l' (bT.out.on cB) aH)
     have bV:=hidF (aP.out.here.on cB)
     clear cB
     go_wp2_with fail
     refine bR.out.mono ?_
     rintro e w5 ⟨rfl,cC⟩
     have cM:=hidF (bV.out.on cC)
     have aK:=hidF (qdA B wb bk w5 v' l' _ (bV.out.on cC).here dB)
     clear cC bR bV
     go_wp2_with fail
     refine aK.out.mono ?_
     rintro e w6 ⟨rfl,v6,l6,aN,aO⟩
     have aL:=hidF (aN.from cM.out)
     have aM:Hid (l6.length=wk l'.length (leafL n.sort n.num n.text).length):=by show _=_;rw[aO,qaJ]
     clear aN aO aK cM
     have HE:Hid (NodAt m B wb bk W2 w6 n d k (pos+1) W2.heap.size (wk l.length (lenF (lenN m) n)) (.slice xa xl xc) (.slice ya yl yc) v6 l6 ns ks/\w6.iterPos W2.heap.size=pos+1):=by
      obtain⟨g1,g2,g3⟩:=aQ.out w6 v6 l6 aL.out
      exact⟨⟨g1,g2,hp,aE.out.names,aE.out.capn,aE.out.kids,aE.out.capk,by rw[aM.out];exact aJ.out,aD.out,aE.out.good⟩,g3⟩
     clear aL aM aJ aD aQ aR z0 z1 z2 z3 z4
     go_wp2_with fail
     go_roundw
     case rel=>exact⟨pos+1,v6,l6,_,_,HE.out.1⟩
     case measure=>rw[HE.out.2,HI.out];omega
    ·rw[hq]at aA aB aC aH
     have aR:∀ ty,(Instr.next (.pointer (some ⟨W2.heap.size,0,none⟩)) true ty).run Tryz.prog wr=.ok (.tuple #[.bool true,.int .i64 (pos:Int),.int .i32 75]) V:=aC
     rw[lp_K]at aA
     rw[fp_O _ (.inr (.inr (.inl rfl)))]at aB
     have aI:=aW (wk l'.length n.text.size)
     rw[aA]at aI
     have aS:=wk_le l'.length n.text.size
     have aJ:=hidF aA
     have aD:=hidF aB
     have aK:=hidF (qdA B wb bk V v' l' n.text aP.out.here (by omega))
     clear aA aB aC aW aI aS hq
     go_wp2_with fail
     refine aK.out.mono ?_
     rintro e w6 ⟨rfl,v6,l6,aN,aO⟩
     have aL:=hidF aN
     have aM:=hidF aO
     clear aN aO aK
     have HE:Hid (NodAt m B wb bk W2 w6 n d k (pos+1) W2.heap.size (wk l.length (lenF (lenN m) n)) (.slice xa xl xc) (.slice ya yl yc) v6 l6 ns ks/\w6.iterPos W2.heap.size=pos+1):=by
      obtain⟨g1,g2,g3⟩:=aQ.out w6 v6 l6 aL.out
      exact⟨⟨g1,g2,hp,aE.out.names,aE.out.capn,aE.out.kids,aE.out.capk,by rw[aM.out];exact aJ.out,aD.out,aE.out.good⟩,g3⟩
     clear aL aM aJ aD aQ aR z0 z1 z2 z3 z4
     go_wp2_with fail
     go_roundw
     case rel=>exact⟨pos+1,v6,l6,_,_,HE.out.1⟩
     case measure=>rw[HE.out.2,HI.out];omega
    ·rw[hq]at aA aB aC aH
     have aR:∀ ty,(Instr.next (.pointer (some ⟨W2.heap.size,0,none⟩)) true ty).run Tryz.prog wr=.ok (.tuple #[.bool true,.int .i64 (pos:Int),.int .i32 70]) V:=aC
     rw[lp_F]at aA
     rw[fp_O _ (.inr (.inr (.inr rfl)))]at aB
     have aI:=aW (wk (lenFs (lenN m) n.names n.kids l'.length) 3)
     rw[aA]at aI
     have aS:=wk_le (lenFs (lenN m) n.names n.kids l'.length) 3
     have aJ:=hidF aA
     have aD:=hidF aB
     have aK:=hidF (dJ.out V v' l' bT.out aH (by omega))
     clear aA aB aC aW aI aS hq
     go_wp2_with fail
     refine aK.out.mono ?_
     rintro e w6 ⟨rfl,v6,l6,aN,aO⟩
     have aL:=hidF aN
     have aM:=hidF aO
     clear aN aO aK
     have HE:Hid (NodAt m B wb bk W2 w6 n d k (pos+1) W2.heap.size (wk l.length (lenF (lenN m) n)) (.slice xa xl xc) (.slice ya yl yc) v6 l6 ns ks/\w6.iterPos W2.heap.size=pos+1):=by
      obtain⟨g1,g2,g3⟩:=aQ.out w6 v6 l6 aL.out
      exact⟨⟨g1,g2,hp,aE.out.names,aE.out.capn,aE.out.kids,aE.out.capk,by rw[aM.out];exact aJ.out,aD.out,aE.out.good⟩,g3⟩
     clear aL aM aJ aD aQ aR z0 z1 z2 z3 z4
     go_wp2_with fail
     go_roundw
     case rel=>exact⟨pos+1,v6,l6,_,_,HE.out.1⟩
     case measure=>rw[HE.out.2,HI.out];omega
    ·rw[hq]at aA aB aC aH
     have aR:∀ ty,(Instr.next (.pointer (some ⟨W2.heap.size,0,none⟩)) true ty).run Tryz.prog wr=.ok (.tuple #[.bool true,.int .i64 (pos:Int),.int .i32 35]) V:=aC
     rw[lp_n]at aA
     rw[fp_O _ (.inr (.inl rfl))]at aB
     have aI:=aW (wk l'.length (Lib.itoa n.num).length)
     rw[aA]at aI
     have aS:=wk_le l'.length (Lib.itoa n.num).length
     have aJ:=hidF aA
     have aD:=hidF aB
     have bR:=hidF (dM.out aH V)
     have aK:=hidF (qdA B wb bk V v' l' (bs (Lib.itoa n.num)) aP.out.here (by rw[qaJ];omega))
     clear aA aB aC aW aI aS hq
     go_wp2_with fail
     refine bR.out.mono ?_
     rintro e w5 ⟨rfl,rfl⟩
     go_wp2_with fail
     refine aK.out.mono ?_
     rintro e w6 ⟨rfl,v6,l6,aN,aO⟩
     have aL:=hidF aN
     have aM:Hid (l6.length=wk l'.length (Lib.itoa n.num).length):=by show _=_;rw[aO,qaJ]
     clear aN aO aK bR
     have HE:Hid (NodAt m B wb bk W2 w6 n d k (pos+1) W2.heap.size (wk l.length (lenF (lenN m) n)) (.slice xa xl xc) (.slice ya yl yc) v6 l6 ns ks/\w6.iterPos W2.heap.size=pos+1):=by
      obtain⟨g1,g2,g3⟩:=aQ.out w6 v6 l6 aL.out
      exact⟨⟨g1,g2,hp,aE.out.names,aE.out.capn,aE.out.kids,aE.out.capk,by rw[aM.out];exact aJ.out,aD.out,aE.out.good⟩,g3⟩
     clear aL aM aJ aD aQ aR z0 z1 z2 z3 z4
     go_wp2_with fail
     go_roundw
     case rel=>exact⟨pos+1,v6,l6,_,_,HE.out.1⟩
     case measure=>rw[HE.out.2,HI.out];omega
    ·rw[hq]at aA aB aC aH
     have aR:∀ ty,(Instr.next (.pointer (some ⟨W2.heap.size,0,none⟩)) true ty).run Tryz.prog wr=.ok (.tuple #[.bool true,.int .i64 (pos:Int),.int .i32 78]) V:=aC
     obtain⟨nm,nq,rfl,bA⟩:=fp_N _ (.inl rfl) _ _ _ aB
     rw[lp_N _ _ (.inl rfl)]at aA
     have aI:=qfZ (lenN m) n ((prt k).drop (pos+1)) nq ks (wk l'.length nm.size)
     rw[aA]at aI
     have aS:=wk_le l'.length nm.size
     obtain⟨_,_,hv,bL,-,bB⟩:=id aE.out.names
     cases hv
     obtain⟨b,off,rfl,aU,aG⟩:=bB (by simp)
     have e0:=aG 0 (by simp)
     have e1:=(aP.out.below.cell (p:=⟨b,off,none⟩) aU).trans e0
     simp only[List.getElem_cons_zero]at e1
     have bI:1<=(nm :: nq).length:=by simp
     have aT:=aE.out.names.tail bZ
     clear bB aG e0
     generalize bE:(nm :: nq).length=kn at *
     have bJ:=qdS (P:=Tryz.prog) 22 1 Tryz.underlying22 (fun _=>by simp[go_sem]) (some ⟨b,off,none⟩) kn xc bI
     obtain⟨ta,tn,tc,aV⟩:∃ ta tn tc,sliced (some ⟨b,off,none⟩) 1 kn xc 1=.slice ta tn tc:=⟨_,_,_,rfl⟩
     have aF:CapOk (.slice ta tn tc):=by
      rw[<- aV];exact⟨_,_,_,rfl,by omega⟩
     rw[aV]at bJ aT
     have aJ:=hidF aA
     have aD:=hidF bA
     have aY:=hidF aT
     have aZ:=hidF aF
     have aK:=hidF (qdA B wb bk V v' l' nm aP.out.here (by omega))
     have bK:(1:Int)<=(kn:Int):=by omega
     unfold maxLen at bL
     clear aA aB aC aW aI aS hq aT aF aV bA bE
     go_wp2_with fail
     refine aK.out.mono ?_
     rintro e w6 ⟨rfl,v6,l6,aN,aO⟩
     have aL:=hidF aN
     have aM:=hidF aO
     clear aN aO aK
     have HE:Hid (NodAt m B wb bk W2 w6 n d k (pos+1) W2.heap.size (wk l.length (lenF (lenN m) n)) (.slice ta tn tc) (.slice ya yl yc) v6 l6 nq ks/\w6.iterPos W2.heap.size=pos+1):=by
      obtain⟨g1,g2,g3⟩:=aQ.out w6 v6 l6 aL.out
      exact⟨⟨g1,g2,hp,aY.out,aZ.out,aE.out.kids,aE.out.capk,by rw[aM.out];exact aJ.out,aD.out,aE.out.good⟩,g3⟩
     clear aL aM aJ aD aQ aR z0 z1 z2 z3 z4 aY aZ e1
     go_wp2_with fail
     go_roundw
     case rel=>exact⟨pos+1,v6,l6,_,_,HE.out.1⟩
     case measure=>rw[HE.out.2,HI.out];omega
    ·rw[hq]at aA aB aC aH
     have aR:∀ ty,(Instr.next (.pointer (some ⟨W2.heap.size,0,none⟩)) true ty).run Tryz.prog wr=.ok (.tuple #[.bool true,.int .i64 (pos:Int),.int .i32 88]) V:=aC
     obtain⟨nm,nq,rfl,bA⟩:=fp_N _ (.inr rfl) _ _ _ aB
     rw[lp_N _ _ (.inr rfl)]at aA
     have aI:=qfZ (lenN m) n ((prt k).drop (pos+1)) nq ks (wk l'.length nm.size)
     rw[aA]at aI
     have aS:=wk_le l'.length nm.size
     obtain⟨_,_,hv,bL,-,bB⟩:=id aE.out.names
     cases hv
     obtain⟨b,off,rfl,aU,aG⟩:=bB (by simp)
     have e0:=aG 0 (by simp)
     have e1:=(aP.out.below.cell (p:=⟨b,off,none⟩) aU).trans e0
     simp only[List.getElem_cons_zero]at e1
     have bI:1<=(nm :: nq).length:=by simp
     have aT:=aE.out.names.tail bZ
     clear bB aG e0
     generalize bE:(nm :: nq).length=kn at *
     have bJ:=qdS (P:=Tryz.prog) 22 1 Tryz.underlying22 (fun _=>by simp[go_sem]) (some ⟨b,off,none⟩) kn xc bI
     obtain⟨ta,tn,tc,aV⟩:∃ ta tn tc,sliced (some ⟨b,off,none⟩) 1 kn xc 1=.slice ta tn tc:=⟨_,_,_,rfl⟩
     have aF:CapOk (.slice ta tn tc):=by
      rw[<- aV];exact⟨_,_,_,rfl,by omega⟩
     rw[aV]at bJ aT
     have aJ:=hidF aA
     have aD:=hidF bA
     have aY:=hidF aT
     have aZ:=hidF aF
     have aK:=hidF (qdA B wb bk V v' l' nm aP.out.here (by omega))
     have bK:(1:Int)<=(kn:Int):=by omega
     unfold maxLen at bL
     clear aA aB aC aW aI aS hq aT aF aV bA bE
     go_wp2_with fail
     refine aK.out.mono ?_
     rintro e w6 ⟨rfl,v6,l6,aN,aO⟩
     have aL:=hidF aN
     have aM:=hidF aO
     clear aN aO aK
     have HE:Hid (NodAt m B wb bk W2 w6 n d k (pos+1) W2.heap.size (wk l.length (lenF (lenN m) n)) (.slice ta tn tc) (.slice ya yl yc) v6 l6 nq ks/\w6.iterPos W2.heap.size=pos+1):=by
      obtain⟨g1,g2,g3⟩:=aQ.out w6 v6 l6 aL.out
      exact⟨⟨g1,g2,hp,aY.out,aZ.out,aE.out.kids,aE.out.capk,by rw[aM.out];exact aJ.out,aD.out,aE.out.good⟩,g3⟩
     clear aL aM aJ aD aQ aR z0 z1 z2 z3 z4 aY aZ e1
     go_wp2_with fail
     go_roundw
     case rel=>exact⟨pos+1,v6,l6,_,_,HE.out.1⟩
     case measure=>rw[HE.out.2,HI.out];omega
    ·rw[hq]at aA aB aC aH
     have aR:∀ ty,(Instr.next (.pointer (some ⟨W2.heap.size,0,none⟩)) true ty).run Tryz.prog wr=.ok (.tuple #[.bool true,.int .i64 (pos:Int),.int .i32 86]) V:=aC
     obtain⟨kx,kq,rfl,-,bA⟩:=fp_V _ (.inl rfl) _ _ _ aB
     rw[lp_V _ _ (.inl rfl)]at aA
     have aI:=qfZ (lenN m) n ((prt k).drop (pos+1)) ns kq (wk l'.length (lenN m kx))
     rw[aA]at aI
     have aS:=wk_le l'.length (lenN m kx)
     have bC:=aE.out.good
     simp only[List.all_cons,Bool.and_eq_true]at bC
     obtain⟨_,_,hv,bL,bB⟩:=id aE.out.kids
     cases hv
     obtain⟨b,off,rfl,aU,aG⟩:=bB (by simp)
     obtain⟨d0,d1,d2,d3,d4,k0,k1,k2,k3,k4,bD⟩:=aG 0 (by simp)
     obtain⟨x0,x1,x2,xxa,xxl,xxc,yya,yyl,yyc,rfl,rfl,rfl,rfl,rfl⟩:=bD.shape
     simp only[Nat.zero_mul,Nat.add_zero,List.getElem_cons_zero]at k0 k1 k2 k3 k4 bD
     have o0:=(aP.out.below.cell (p:=⟨b,off,none⟩) aU).trans k0
     have o1:=(aP.out.below.cell (p:=⟨b,off+1,none⟩) aU).trans k1
     have o2:=(aP.out.below.cell (p:=⟨b,off+2,none⟩) aU).trans k2
     have o3:=(aP.out.below.cell (p:=⟨b,off+3,none⟩) aU).trans k3
     have o4:=(aP.out.below.cell (p:=⟨b,off+4,none⟩) aU).trans k4
     have aK:=hidF (HK.out V v' l' kx _ _ _ _ _ bT.out (bD.keep aP.out.same (fun _ h=>h)) bC.1 (by omega))
     have bI:1<=(kx :: kq).length:=by simp
     have aT:=aE.out.kids.tail cA
     clear aG bB k0 k1 k2 k3 k4 bD
     generalize bE:(kx :: kq).length=kn at *
     have bJ:=qdS (P:=Tryz.prog) 23 5 Tryz.underlying23 (fun _=>by simp[go_sem]) (some ⟨b,off,none⟩) kn yc bI
     obtain⟨ta,tn,tc,aV⟩:∃ ta tn tc,sliced (some ⟨b,off,none⟩) 1 kn yc 5=.slice ta tn tc:=⟨_,_,_,rfl⟩
     have aF:CapOk (.slice ta tn tc):=by
      rw[<- aV];exact⟨_,_,_,rfl,by omega⟩
     rw[aV]at bJ aT
     have aJ:=hidF aA
     have aD:=hidF bA
     have aY:=hidF aT
     have aZ:=hidF aF
     have bS:=hidF bC.2
     have bK:(1:Int)<=(kn:Int):=by omega
     unfold maxLen at bL
     clear aA aB aC aW aI aS hq aT aF aV bA bE bC
     go_wp2_with fail
     refine aK.out.mono ?_
     rintro e w6 ⟨rfl,v6,l6,aN,aO⟩
     have aL:=hidF aN
     have aM:=hidF aO
     clear aN aO aK
     have HE:Hid (NodAt m B wb bk W2 w6 n d k (pos+1) W2.heap.size (wk l.length (lenF (lenN m) n)) (.slice xa xl xc) (.slice ta tn tc) v6 l6 ns kq/\w6.iterPos W2.heap.size=pos+1):=by
      obtain⟨g1,g2,g3⟩:=aQ.out w6 v6 l6 aL.out
      exact⟨⟨g1,g2,hp,aE.out.names,aE.out.capn,aY.out,aZ.out,by rw[aM.out];exact aJ.out,aD.out,bS.out⟩,g3⟩
     clear aL aM aJ aD aQ aR z0 z1 z2 z3 z4 aY aZ bS o0 o1 o2 o3 o4
     go_wp2_with fail
     go_roundw
     case rel=>exact⟨pos+1,v6,l6,_,_,HE.out.1⟩
     case measure=>rw[HE.out.2,HI.out];omega
    ·rw[hq]at aA aB aC aH
     have aR:∀ ty,(Instr.next (.pointer (some ⟨W2.heap.size,0,none⟩)) true ty).run Tryz.prog wr=.ok (.tuple #[.bool true,.int .i64 (pos:Int),.int .i32 65]) V:=aC
     obtain⟨kx,kq,rfl,-,bA⟩:=fp_V _ (.inr rfl) _ _ _ aB
     rw[lp_V _ _ (.inr rfl)]at aA
     have aI:=qfZ (lenN m) n ((prt k).drop (pos+1)) ns kq (wk l'.length (lenN m kx))
     rw[aA]at aI
     have aS:=wk_le l'.length (lenN m kx)
     have bC:=aE.out.good
     simp only[List.all_cons,Bool.and_eq_true]at bC
     obtain⟨_,_,hv,bL,bB⟩:=id aE.out.kids
     cases hv
     obtain⟨b,off,rfl,aU,aG⟩:=bB (by simp)
     obtain⟨d0,d1,d2,d3,d4,k0,k1,k2,k3,k4,bD⟩:=aG 0 (by simp)
     obtain⟨x0,x1,x2,xxa,xxl,xxc,yya,yyl,yyc,rfl,rfl,rfl,rfl,rfl⟩:=bD.shape
     simp only[Nat.zero_mul,Nat.add_zero,List.getElem_cons_zero]at k0 k1 k2 k3 k4 bD
     have o0:=(aP.out.below.cell (p:=⟨b,off,none⟩) aU).trans k0
     have o1:=(aP.out.below.cell (p:=⟨b,off+1,none⟩) aU).trans k1
     have o2:=(aP.out.below.cell (p:=⟨b,off+2,none⟩) aU).trans k2
     have o3:=(aP.out.below.cell (p:=⟨b,off+3,none⟩) aU).trans k3
     have o4:=(aP.out.below.cell (p:=⟨b,off+4,none⟩) aU).trans k4
     have aK:=hidF (HK.out V v' l' kx _ _ _ _ _ bT.out (bD.keep aP.out.same (fun _ h=>h)) bC.1 (by omega))
     have bI:1<=(kx :: kq).length:=by simp
     have aT:=aE.out.kids.tail cA
     clear aG bB k0 k1 k2 k3 k4 bD
     generalize bE:(kx :: kq).length=kn at *
     have bJ:=qdS (P:=Tryz.prog) 23 5 Tryz.underlying23 (fun _=>by simp[go_sem]) (some ⟨b,off,none⟩) kn yc bI
     obtain⟨ta,tn,tc,aV⟩:∃ ta tn tc,sliced (some ⟨b,off,none⟩) 1 kn yc 5=.slice ta tn tc:=⟨_,_,_,rfl⟩
     have aF:CapOk (.slice ta tn tc):=by
      rw[<- aV];exact⟨_,_,_,rfl,by omega⟩
     rw[aV]at bJ aT
     have aJ:=hidF aA
     have aD:=hidF bA
     have aY:=hidF aT
     have aZ:=hidF aF
     have bS:=hidF bC.2
     have bK:(1:Int)<=(kn:Int):=by omega
     unfold maxLen at bL
     clear aA aB aC aW aI aS hq aT aF aV bA bE bC
     go_wp2_with fail
     refine aK.out.mono ?_
     rintro e w6 ⟨rfl,v6,l6,aN,aO⟩
     have aL:=hidF aN
     have aM:=hidF aO
     clear aN aO aK
     have HE:Hid (NodAt m B wb bk W2 w6 n d k (pos+1) W2.heap.size (wk l.length (lenF (lenN m) n)) (.slice xa xl xc) (.slice ta tn tc) v6 l6 ns kq/\w6.iterPos W2.heap.size=pos+1):=by
      obtain⟨g1,g2,g3⟩:=aQ.out w6 v6 l6 aL.out
      exact⟨⟨g1,g2,hp,aE.out.names,aE.out.capn,aY.out,aZ.out,by rw[aM.out];exact aJ.out,aD.out,bS.out⟩,g3⟩
     clear aL aM aJ aD aQ aR z0 z1 z2 z3 z4 aY aZ bS o0 o1 o2 o3 o4
     go_wp2_with fail
     go_roundw
     case rel=>exact⟨pos+1,v6,l6,_,_,HE.out.1⟩
     case measure=>rw[HE.out.2,HI.out];omega
   ·have aR:=fun ty=>Lib.run_next_end_at (P:=Tryz.prog) wr W2.heap.size (bs (prt k)) pos ty bH (by rw[qaJ];exact hp)
    have aA:=hj.len
    rw[List.drop_of_length_le (by omega),lenP]at aA
    have HP:Hid (WPost B wb bk w (wk l.length (lenF (lenN m) n)) (.returned (.tuple #[])) wr):=⟨rfl,v',l',hj.wrt.from bU.out,aA⟩
    obtain⟨xa,xl,xc,rfl,bZ⟩:=hj.capn
    obtain⟨ya,yl,yc,rfl,cA⟩:=hj.capk
    clear hj bH aA
    go_wp2_with fail
    refine bodyPost_end (results_none rfl _ _ _) rfl ?_
    exact HP.out
 ·have cU:((wrd k).toList==[])=false:=by
   have h0:=(cH.out.2 (by omega)).1
   have:¬ (wrd k).toList=[]:=by
    rw[ByteArray.toList_eq];intro e;have h1:(wrd k).data.toList.length=0:=by rw[e];rfl
    have h2:(wrd k).data.toList.length=(wrd k).size:=by simp
    omega
   simpa using this
  have dU:¬ (wrd k).toList=[]:=by simpa using cU
  have dP:=hidF (qdA B wb bk W2 v l (wrd k) cT.out.here (by have:=cV.out;have:=wk_le l.length (lenF (lenN m) n);have:=(cH.out.2 (by omega)).2;omega))
  have cN:=hidF bM
  have bW:=hidF bF
  have dX:w.heap.size+2<=W2.heap.size:=by omega
  clear bP bM bF
  go_enter Tryz.func70,Tryz.ntmps70
  go_wp2_with fail
  go_region
  rw[<- dF.out,<- dG.out]
  clear b0 b1 b2 b3 r0 cS
  go_wp2_with fail
  refine dP.out.mono ?_
  rintro e W3 ⟨rfl,v3,l3,cR,dQ⟩
  have bU:=hidF (cR.from cT.out)
  have cI:Hid (W3.heap[w.heap.size]?=_):=cR.kept w.heap.size _ cN.out (by simp;omega) (fun c fz e=>by cases e)
  have cW:Hid (W3.heap[w.heap.size+1]?=_):=cR.kept (w.heap.size+1) _ bW.out (by simp;omega) (fun c fz e=>by cases e)
  have cX:Hid (w.heap.size+2<=W3.heap.size):=by
   have:=cR.kept (w.heap.size+1) _ bW.out (by simp;omega) (fun c fz e=>by cases e)
   have:=(Array.getElem?_eq_some_iff.1 this).1
   show _<=_;omega
  have cY:Hid (l3.length=wk0 k l.length):=by show _=_;unfold wk0;rw[if_neg (by have:=(cH.out.2 (by omega)).1;omega)];exact dQ
  clear cR dQ dP y0 cN bW dE cT
  have bG:=bU.out
  have cZ:B<=W3.heap.size:=bG.le
  have dV:w.heap.size+2<=W3.heap.size:=cX.out
  obtain⟨p0,p1,p2,p3,p4⟩:=qcF cI.out
  have p5:W3.cell? ⟨w.heap.size+1,1,none⟩=some (.string (bs (prt k))):=by simp[World.cell?,cW.out]
  have HJ:Hid (∀ j,NodAt m B wb bk W3 ((W3.drewN j).iter (bs (prt k)) 0) n d k 0 W3.heap.size (wk l.length (lenF (lenN m) n)) (.slice na n.names.length nc) (.slice ka n.kids.length kc) v3 l3 n.names n.kids):=by
   intro j
   obtain⟨g3,g4,g5,g6,g7⟩:=dN.out
   refine⟨?_,World.iter_heap (W3.drewN j) _ _,Nat.zero_le _,g3.keep bG.same (fun _ h=>h),⟨_,_,_,rfl,g5⟩,g4.keepN bG.same (fun _ h=>h),⟨_,_,_,rfl,g6⟩,?_,?_,g7⟩
   ·have h0:Wrt B wb bk W3 (W3.drewN j) v3 l3:=⟨bG.own,⟨rfl,rfl,rfl,Nat.le_refl _,fun _ _=>rfl⟩,bG.le,fun _ _ h _ _=>h,bG.box,bG.ge⟩
    exact h0.alloc _
   ·have h0:=dH.out
    rw[<- cY.out]at h0
    rw[List.drop_zero];exact h0
   ·rw[List.drop_zero];exact dI.out
  clear bG
  go_wp2_with fail
  go_quiet (fail)
  go_wp2_with fail
  go_loopw [5,6] (fun a b wr=>∃ pos v' l' ns ks,NodAt m B wb bk W3 wr n d k pos W3.heap.size (wk l.length (lenF (lenN m) n)) a b v' l' ns ks) (fun _ _ wr=>(prt k).length - wr.iterPos W3.heap.size)
  case atStart=>exact⟨0,_,_,_,_,HJ.out _⟩
  case round=>
   obtain⟨pos,v',l',ns,ks,hj⟩:=hrel
   have dW:=hj.le
   have bH:=hj.iter
   by_cases hp:pos<(prt k).length
   ·have aC:=fun ty=>Lib.run_next_ascii_at (P:=Tryz.prog) wr W3.heap.size (bs (prt k)) pos ty bH (by rw[qaJ];exact hp) (by rw[qhT];exact qjF k bN _ (List.getElem_mem hp))
    rw[qhT]at aC
    obtain⟨V,hV⟩:∃ V,V=wr.iterAt W3.heap.size (bs (prt k)) (pos+1):=⟨_,rfl⟩
    rw[<- hV]at aC
    have bQ:Wrt B wb bk W3 V v' l':=by rw[hV];exact hj.wrt.iter bH (Nat.le_refl _) cZ _
    have cJ:V.heap[W3.heap.size]?=some (.stringIter (bs (prt k)) (pos+1)):=by rw[hV];exact Lib.iterAt_heap _ _ _ _ _ bH
    have cK:=bQ.kept w.heap.size _ cI.out (by simp;omega) (fun c fz e=>by cases e)
    obtain⟨z0,z1,z2,z3,z4⟩:=qcF cK
    rw[dO.out]at z0
    have aX:=List.drop_eq_getElem_cons hp
    have aH:=List.getElem_mem hp
    have aA:=hj.len
    rw[aX]at aA
    have aB:=hj.fit
    rw[aX]at aB
    obtain⟨xa,xl,xc,rfl,bZ⟩:=hj.capn
    obtain⟨ya,yl,yc,rfl,cA⟩:=hj.capk
    have HI:Hid (wr.iterPos W3.heap.size=pos):=iterPos_of bH
    have aP:=hidF bQ
    have bT:=hidF (bQ.from bU.out)
    have aE:=hidF hj
    have dA:wk l.length (lenF (lenN m) n)<=800000:=cV.out
    have aQ:Hid (∀ (w6:World) (v6:Value) (l6:List UInt8),Wrt B wb bk V w6 v6 l6->Wrt B wb bk W3 w6 v6 l6/\w6.heap[W3.heap.size]?=some (.stringIter (bs (prt k)) (pos+1))/\w6.iterPos W3.heap.size=pos+1):=by
     intro w6 v6 l6 h6
     have cL:=h6.kept W3.heap.size _ cJ (by simp;omega) (fun c fz e=>by cases e)
     exact⟨h6.from bQ,cL,iterPos_of cL⟩
    have aW:=fun q=>qfZ (lenN m) n ((prt k).drop (pos+1)) ns ks q
    clear hj bH hV bQ cJ cK aX
    rcases quS k bN _ aH with hq|hq|hq|hq|hq|hq|hq|hq
    ·rw[hq]at aA aB aC aH
     have aR:∀ ty,(Instr.next (.pointer (some ⟨W3.heap.size,0,none⟩)) true ty).run Tryz.prog wr=.ok (.tuple #[.bool true,.int .i64 (pos:Int),.int .i32 84]) V:=aC
     rw[lp_T]at aA
     rw[fp_O _ (.inl rfl)]at aB
     have aI:=aW (wk l'.length (leafL n.sort n.num n.text).length)
     rw[aA]at aI
     have aS:=wk_le l'.length (leafL n.sort n.num n.text).length
     have aJ:=hidF aA
     have aD:=hidF aB
     have dB:l'.length+1+(bs (leafL n.sort n.num n.text)).size<=900000:=by rw[qaJ];omega
     clear aA aB aC aW aI aS hq
     go_wp2_with fail
     refine (dL.out _).mono ?_
     rintro e w4 ⟨rfl,cB⟩
     have bR:=hidF (dK.out w4 v' l' (bT.out.on cB) aH)
     have bV:=hidF (aP.out.here.on cB)
     clear cB
     go_wp2_with fail
     refine bR.out.mono ?_
     rintro e w5 ⟨rfl,cC⟩
     have cM:=hidF (bV.out.on cC)
     have aK:=hidF (qdA B wb bk w5 v' l' _ (bV.out.on cC).here dB)
     clear cC bR bV
     go_wp2_with fail
     refine aK.out.mono ?_
     rintro e w6 ⟨rfl,v6,l6,aN,aO⟩
     have aL:=hidF (aN.from cM.out)
     have aM:Hid (l6.length=wk l'.length (leafL n.sort n.num n.text).length):=by show _=_;rw[aO,qaJ]
     clear aN aO aK cM
     have HE:Hid (NodAt m B wb bk W3 w6 n d k (pos+1) W3.heap.size (wk l.length (lenF (lenN m) n)) (.slice xa xl xc) (.slice ya yl yc) v6 l6 ns ks/\w6.iterPos W3.heap.size=pos+1):=by
      obtain⟨g1,g2,g3⟩:=aQ.out w6 v6 l6 aL.out
      exact⟨⟨g1,g2,hp,aE.out.names,aE.out.capn,aE.out.kids,aE.out.capk,by rw[aM.out];exact aJ.out,aD.out,aE.out.good⟩,g3⟩
     clear aL aM aJ aD aQ aR z0 z1 z2 z3 z4
     go_wp2_with fail
     go_roundw
     case rel=>exact⟨pos+1,v6,l6,_,_,HE.out.1⟩
     case measure=>rw[HE.out.2,HI.out];omega
    ·rw[hq]at aA aB aC aH
     have aR:∀ ty,(Instr.next (.pointer (some ⟨W3.heap.size,0,none⟩)) true ty).run Tryz.prog wr=.ok (.tuple #[.bool true,.int .i64 (pos:Int),.int .i32 75]) V:=aC
     rw[lp_K]at aA
     rw[fp_O _ (.inr (.inr (.inl rfl)))]at aB
     have aI:=aW (wk l'.length n.text.size)
     rw[aA]at aI
     have aS:=wk_le l'.length n.text.size
     have aJ:=hidF aA
     have aD:=hidF aB
     have aK:=hidF (qdA B wb bk V v' l' n.text aP.out.here (by omega))
     clear aA aB aC aW aI aS hq
     go_wp2_with fail
     refine aK.out.mono ?_
     rintro e w6 ⟨rfl,v6,l6,aN,aO⟩
     have aL:=hidF aN
     have aM:=hidF aO
     clear aN aO aK
     have HE:Hid (NodAt m B wb bk W3 w6 n d k (pos+1) W3.heap.size (wk l.length (lenF (lenN m) n)) (.slice xa xl xc) (.slice ya yl yc) v6 l6 ns ks/\w6.iterPos W3.heap.size=pos+1):=by
      obtain⟨g1,g2,g3⟩:=aQ.out w6 v6 l6 aL.out
      exact⟨⟨g1,g2,hp,aE.out.names,aE.out.capn,aE.out.kids,aE.out.capk,by rw[aM.out];exact aJ.out,aD.out,aE.out.good⟩,g3⟩
     clear aL aM aJ aD aQ aR z0 z1 z2 z3 z4
     go_wp2_with fail
     go_roundw
     case rel=>exact⟨pos+1,v6,l6,_,_,HE.out.1⟩
     case measure=>rw[HE.out.2,HI.out];omega
    ·rw[hq]at aA aB aC aH
     have aR:∀ ty,(Instr.next (.pointer (some ⟨W3.heap.size,0,none⟩)) true ty).run Tryz.prog wr=.ok (.tuple #[.bool true,.int .i64 (pos:Int),.int .i32 70]) V:=aC
     rw[lp_F]at aA
     rw[fp_O _ (.inr (.inr (.inr rfl)))]at aB
     have aI:=aW (wk (lenFs (lenN m) n.names n.kids l'.length) 3)
     rw[aA]at aI
     have aS:=wk_le (lenFs (lenN m) n.names n.kids l'.length) 3
     have aJ:=hidF aA
     have aD:=hidF aB
     have aK:=hidF (dJ.out V v' l' bT.out aH (by omega))
     clear aA aB aC aW aI aS hq
     go_wp2_with fail
     refine aK.out.mono ?_
     rintro e w6 ⟨rfl,v6,l6,aN,aO⟩
     have aL:=hidF aN
     have aM:=hidF aO
     clear aN aO aK
     have HE:Hid (NodAt m B wb bk W3 w6 n d k (pos+1) W3.heap.size (wk l.length (lenF (lenN m) n)) (.slice xa xl xc) (.slice ya yl yc) v6 l6 ns ks/\w6.iterPos W3.heap.size=pos+1):=by
      obtain⟨g1,g2,g3⟩:=aQ.out w6 v6 l6 aL.out
      exact⟨⟨g1,g2,hp,aE.out.names,aE.out.capn,aE.out.kids,aE.out.capk,by rw[aM.out];exact aJ.out,aD.out,aE.out.good⟩,g3⟩
     clear aL aM aJ aD aQ aR z0 z1 z2 z3 z4
     go_wp2_with fail
     go_roundw
     case rel=>exact⟨pos+1,v6,l6,_,_,HE.out.1⟩
     case measure=>rw[HE.out.2,HI.out];omega
    ·rw[hq]at aA aB aC aH
     have aR:∀ ty,(Instr.next (.pointer (some ⟨W3.heap.size,0,none⟩)) true ty).run Tryz.prog wr=.ok (.tuple #[.bool true,.int .i64 (pos:Int),.int .i32 35]) V:=aC
     rw[lp_n]at aA
     rw[fp_O _ (.inr (.inl rfl))]at aB
     have aI:=aW (wk l'.length (Lib.itoa n.num).length)
     rw[aA]at aI
     have aS:=wk_le l'.length (Lib.itoa n.num).length
     have aJ:=hidF aA
     have aD:=hidF aB
     have bR:=hidF (dM.out aH V)
     have aK:=hidF (qdA B wb bk V v' l' (bs (Lib.itoa n.num)) aP.out.here (by rw[qaJ];omega))
     clear aA aB aC aW aI aS hq
     go_wp2_with fail
     refine bR.out.mono ?_
     rintro e w5 ⟨rfl,rfl⟩
     go_wp2_with fail
     refine aK.out.mono ?_
     rintro e w6 ⟨rfl,v6,l6,aN,aO⟩
     have aL:=hidF aN
     have aM:Hid (l6.length=wk l'.length (Lib.itoa n.num).length):=by show _=_;rw[aO,qaJ]
     clear aN aO aK bR
     have HE:Hid (NodAt m B wb bk W3 w6 n d k (pos+1) W3.heap.size (wk l.length (lenF (lenN m) n)) (.slice xa xl xc) (.slice ya yl yc) v6 l6 ns ks/\w6.iterPos W3.heap.size=pos+1):=by
      obtain⟨g1,g2,g3⟩:=aQ.out w6 v6 l6 aL.out
      exact⟨⟨g1,g2,hp,aE.out.names,aE.out.capn,aE.out.kids,aE.out.capk,by rw[aM.out];exact aJ.out,aD.out,aE.out.good⟩,g3⟩
     clear aL aM aJ aD aQ aR z0 z1 z2 z3 z4
     go_wp2_with fail
     go_roundw
     case rel=>exact⟨pos+1,v6,l6,_,_,HE.out.1⟩
     case measure=>rw[HE.out.2,HI.out];omega
    ·rw[hq]at aA aB aC aH
     have aR:∀ ty,(Instr.next (.pointer (some ⟨W3.heap.size,0,none⟩)) true ty).run Tryz.prog wr=.ok (.tuple #[.bool true,.int .i64 (pos:Int),.int .i32 78]) V:=aC
     obtain⟨nm,nq,rfl,bA⟩:=fp_N _ (.inl rfl) _ _ _ aB
     rw[lp_N _ _ (.inl rfl)]at aA
     have aI:=qfZ (lenN m) n ((prt k).drop (pos+1)) nq ks (wk l'.length nm.size)
     rw[aA]at aI
     have aS:=wk_le l'.length nm.size
     obtain⟨_,_,hv,bL,-,bB⟩:=id aE.out.names
     cases hv
     obtain⟨b,off,rfl,aU,aG⟩:=bB (by simp)
     have e0:=aG 0 (by simp)
     have e1:=(aP.out.below.cell (p:=⟨b,off,none⟩) aU).trans e0
     simp only[List.getElem_cons_zero]at e1
     have bI:1<=(nm :: nq).length:=by simp
     have aT:=aE.out.names.tail bZ
     clear bB aG e0
     generalize bE:(nm :: nq).length=kn at *
     have bJ:=qdS (P:=Tryz.prog) 22 1 Tryz.underlying22 (fun _=>by simp[go_sem]) (some ⟨b,off,none⟩) kn xc bI
     obtain⟨ta,tn,tc,aV⟩:∃ ta tn tc,sliced (some ⟨b,off,none⟩) 1 kn xc 1=.slice ta tn tc:=⟨_,_,_,rfl⟩
     have aF:CapOk (.slice ta tn tc):=by
      rw[<- aV];exact⟨_,_,_,rfl,by omega⟩
     rw[aV]at bJ aT
     have aJ:=hidF aA
     have aD:=hidF bA
     have aY:=hidF aT
     have aZ:=hidF aF
     have aK:=hidF (qdA B wb bk V v' l' nm aP.out.here (by omega))
     have bK:(1:Int)<=(kn:Int):=by omega
     unfold maxLen at bL
     clear aA aB aC aW aI aS hq aT aF aV bA bE
     go_wp2_with fail
     refine aK.out.mono ?_
     rintro e w6 ⟨rfl,v6,l6,aN,aO⟩
     have aL:=hidF aN
     have aM:=hidF aO
     clear aN aO aK
     have HE:Hid (NodAt m B wb bk W3 w6 n d k (pos+1) W3.heap.size (wk l.length (lenF (lenN m) n)) (.slice ta tn tc) (.slice ya yl yc) v6 l6 nq ks/\w6.iterPos W3.heap.size=pos+1):=by
      obtain⟨g1,g2,g3⟩:=aQ.out w6 v6 l6 aL.out
      exact⟨⟨g1,g2,hp,aY.out,aZ.out,aE.out.kids,aE.out.capk,by rw[aM.out];exact aJ.out,aD.out,aE.out.good⟩,g3⟩
     clear aL aM aJ aD aQ aR z0 z1 z2 z3 z4 aY aZ e1
     go_wp2_with fail
     go_roundw
     case rel=>exact⟨pos+1,v6,l6,_,_,HE.out.1⟩
     case measure=>rw[HE.out.2,HI.out];omega
    ·rw[hq]at aA aB aC aH
     have aR:∀ ty,(Instr.next (.pointer (some ⟨W3.heap.size,0,none⟩)) true ty).run Tryz.prog wr=.ok (.tuple #[.bool true,.int .i64 (pos:Int),.int .i32 88]) V:=aC
     obtain⟨nm,nq,rfl,bA⟩:=fp_N _ (.inr rfl) _ _ _ aB
     rw[lp_N _ _ (.inr rfl)]at aA
     have aI:=qfZ (lenN m) n ((prt k).drop (pos+1)) nq ks (wk l'.length nm.size)
     rw[aA]at aI
     have aS:=wk_le l'.length nm.size
     obtain⟨_,_,hv,bL,-,bB⟩:=id aE.out.names
     cases hv
     obtain⟨b,off,rfl,aU,aG⟩:=bB (by simp)
     have e0:=aG 0 (by simp)
     have e1:=(aP.out.below.cell (p:=⟨b,off,none⟩) aU).trans e0
     simp only[List.getElem_cons_zero]at e1
     have bI:1<=(nm :: nq).length:=by simp
     have aT:=aE.out.names.tail bZ
     clear bB aG e0
     generalize bE:(nm :: nq).length=kn at *
     have bJ:=qdS (P:=Tryz.prog) 22 1 Tryz.underlying22 (fun _=>by simp[go_sem]) (some ⟨b,off,none⟩) kn xc bI
     obtain⟨ta,tn,tc,aV⟩:∃ ta tn tc,sliced (some ⟨b,off,none⟩) 1 kn xc 1=.slice ta tn tc:=⟨_,_,_,rfl⟩
     have aF:CapOk (.slice ta tn tc):=by
      rw[<- aV];exact⟨_,_,_,rfl,by omega⟩
     rw[aV]at bJ aT
     have aJ:=hidF aA
     have aD:=hidF bA
     have aY:=hidF aT
     have aZ:=hidF aF
     have aK:=hidF (qdA B wb bk V v' l' nm aP.out.here (by omega))
     have bK:(1:Int)<=(kn:Int):=by omega
     unfold maxLen at bL
     clear aA aB aC aW aI aS hq aT aF aV bA bE
     go_wp2_with fail
     refine aK.out.mono ?_
     rintro e w6 ⟨rfl,v6,l6,aN,aO⟩
     have aL:=hidF aN
     have aM:=hidF aO
     clear aN aO aK
     have HE:Hid (NodAt m B wb bk W3 w6 n d k (pos+1) W3.heap.size (wk l.length (lenF (lenN m) n)) (.slice ta tn tc) (.slice ya yl yc) v6 l6 nq ks/\w6.iterPos W3.heap.size=pos+1):=by
      obtain⟨g1,g2,g3⟩:=aQ.out w6 v6 l6 aL.out
      exact⟨⟨g1,g2,hp,aY.out,aZ.out,aE.out.kids,aE.out.capk,by rw[aM.out];exact aJ.out,aD.out,aE.out.good⟩,g3⟩
     clear aL aM aJ aD aQ aR z0 z1 z2 z3 z4 aY aZ e1
     go_wp2_with fail
     go_roundw
     case rel=>exact⟨pos+1,v6,l6,_,_,HE.out.1⟩
     case measure=>rw[HE.out.2,HI.out];omega
    ·rw[hq]at aA aB aC aH
     have aR:∀ ty,(Instr.next (.pointer (some ⟨W3.heap.size,0,none⟩)) true ty).run Tryz.prog wr=.ok (.tuple #[.bool true,.int .i64 (pos:Int),.int .i32 86]) V:=aC
     obtain⟨kx,kq,rfl,-,bA⟩:=fp_V _ (.inl rfl) _ _ _ aB
     rw[lp_V _ _ (.inl rfl)]at aA
     have aI:=qfZ (lenN m) n ((prt k).drop (pos+1)) ns kq (wk l'.length (lenN m kx))
     rw[aA]at aI
     have aS:=wk_le l'.length (lenN m kx)
     have bC:=aE.out.good
     simp only[List.all_cons,Bool.and_eq_true]at bC
     obtain⟨_,_,hv,bL,bB⟩:=id aE.out.kids
     cases hv
     obtain⟨b,off,rfl,aU,aG⟩:=bB (by simp)
     obtain⟨d0,d1,d2,d3,d4,k0,k1,k2,k3,k4,bD⟩:=aG 0 (by simp)
     obtain⟨x0,x1,x2,xxa,xxl,xxc,yya,yyl,yyc,rfl,rfl,rfl,rfl,rfl⟩:=bD.shape
     simp only[Nat.zero_mul,Nat.add_zero,List.getElem_cons_zero]at k0 k1 k2 k3 k4 bD
     have o0:=(aP.out.below.cell (p:=⟨b,off,none⟩) aU).trans k0
     have o1:=(aP.out.below.cell (p:=⟨b,off+1,none⟩) aU).trans k1
     have o2:=(aP.out.below.cell (p:=⟨b,off+2,none⟩) aU).trans k2
     have o3:=(aP.out.below.cell (p:=⟨b,off+3,none⟩) aU).trans k3
     have o4:=(aP.out.below.cell (p:=⟨b,off+4,none⟩) aU).trans k4
     have aK:=hidF (HK.out V v' l' kx _ _ _ _ _ bT.out (bD.keep aP.out.same (fun _ h=>h)) bC.1 (by omega))
     have bI:1<=(kx :: kq).length:=by simp
     have aT:=aE.out.kids.tail cA
     clear aG bB k0 k1 k2 k3 k4 bD
     generalize bE:(kx :: kq).length=kn at *
     have bJ:=qdS (P:=Tryz.prog) 23 5 Tryz.underlying23 (fun _=>by simp[go_sem]) (some ⟨b,off,none⟩) kn yc bI
     obtain⟨ta,tn,tc,aV⟩:∃ ta tn tc,sliced (some ⟨b,off,none⟩) 1 kn yc 5=.slice ta tn tc:=⟨_,_,_,rfl⟩
     have aF:CapOk (.slice ta tn tc):=by
      rw[<- aV];exact⟨_,_,_,rfl,by omega⟩
     rw[aV]at bJ aT
     have aJ:=hidF aA
     have aD:=hidF bA
     have aY:=hidF aT
     have aZ:=hidF aF
     have bS:=hidF bC.2
     have bK:(1:Int)<=(kn:Int):=by omega
     unfold maxLen at bL
     clear aA aB aC aW aI aS hq aT aF aV bA bE bC
     go_wp2_with fail
     refine aK.out.mono ?_
     rintro e w6 ⟨rfl,v6,l6,aN,aO⟩
     have aL:=hidF aN
     have aM:=hidF aO
     clear aN aO aK
     have HE:Hid (NodAt m B wb bk W3 w6 n d k (pos+1) W3.heap.size (wk l.length (lenF (lenN m) n)) (.slice xa xl xc) (.slice ta tn tc) v6 l6 ns kq/\w6.iterPos W3.heap.size=pos+1):=by
      obtain⟨g1,g2,g3⟩:=aQ.out w6 v6 l6 aL.out
      exact⟨⟨g1,g2,hp,aE.out.names,aE.out.capn,aY.out,aZ.out,by rw[aM.out];exact aJ.out,aD.out,bS.out⟩,g3⟩
     clear aL aM aJ aD aQ aR z0 z1 z2 z3 z4 aY aZ bS o0 o1 o2 o3 o4
     go_wp2_with fail
     go_roundw
     case rel=>exact⟨pos+1,v6,l6,_,_,HE.out.1⟩
     case measure=>rw[HE.out.2,HI.out];omega
    ·rw[hq]at aA aB aC aH
     have aR:∀ ty,(Instr.next (.pointer (some ⟨W3.heap.size,0,none⟩)) true ty).run Tryz.prog wr=.ok (.tuple #[.bool true,.int .i64 (pos:Int),.int .i32 65]) V:=aC
     obtain⟨kx,kq,rfl,-,bA⟩:=fp_V _ (.inr rfl) _ _ _ aB
     rw[lp_V _ _ (.inr rfl)]at aA
     have aI:=qfZ (lenN m) n ((prt k).drop (pos+1)) ns kq (wk l'.length (lenN m kx))
     rw[aA]at aI
     have aS:=wk_le l'.length (lenN m kx)
     have bC:=aE.out.good
     simp only[List.all_cons,Bool.and_eq_true]at bC
     obtain⟨_,_,hv,bL,bB⟩:=id aE.out.kids
     cases hv
     obtain⟨b,off,rfl,aU,aG⟩:=bB (by simp)
     obtain⟨d0,d1,d2,d3,d4,k0,k1,k2,k3,k4,bD⟩:=aG 0 (by simp)
     obtain⟨x0,x1,x2,xxa,xxl,xxc,yya,yyl,yyc,rfl,rfl,rfl,rfl,rfl⟩:=bD.shape
     simp only[Nat.zero_mul,Nat.add_zero,List.getElem_cons_zero]at k0 k1 k2 k3 k4 bD
     have o0:=(aP.out.below.cell (p:=⟨b,off,none⟩) aU).trans k0
     have o1:=(aP.out.below.cell (p:=⟨b,off+1,none⟩) aU).trans k1
     have o2:=(aP.out.below.cell (p:=⟨b,off+2,none⟩) aU).trans k2
     have o3:=(aP.out.below.cell (p:=⟨b,off+3,none⟩) aU).trans k3
     have o4:=(aP.out.below.cell (p:=⟨b,off+4,none⟩) aU).trans k4
     have aK:=hidF (HK.out V v' l' kx _ _ _ _ _ bT.out (bD.keep aP.out.same (fun _ h=>h)) bC.1 (by omega))
     have bI:1<=(kx :: kq).length:=by simp
     have aT:=aE.out.kids.tail cA
     clear aG bB k0 k1 k2 k3 k4 bD
     generalize bE:(kx :: kq).length=kn at *
     have bJ:=qdS (P:=Tryz.prog) 23 5 Tryz.underlying23 (fun _=>by simp[go_sem]) (some ⟨b,off,none⟩) kn yc bI
     obtain⟨ta,tn,tc,aV⟩:∃ ta tn tc,sliced (some ⟨b,off,none⟩) 1 kn yc 5=.slice ta tn tc:=⟨_,_,_,rfl⟩
     have aF:CapOk (.slice ta tn tc):=by
      rw[<- aV];exact⟨_,_,_,rfl,by omega⟩
     rw[aV]at bJ aT
     have aJ:=hidF aA
     have aD:=hidF bA
     have aY:=hidF aT
     have aZ:=hidF aF
     have bS:=hidF bC.2
     have bK:(1:Int)<=(kn:Int):=by omega
     unfold maxLen at bL
     clear aA aB aC aW aI aS hq aT aF aV bA bE bC
     go_wp2_with fail
     refine aK.out.mono ?_
     rintro e w6 ⟨rfl,v6,l6,aN,aO⟩
     have aL:=hidF aN
     have aM:=hidF aO
     clear aN aO aK
     have HE:Hid (NodAt m B wb bk W3 w6 n d k (pos+1) W3.heap.size (wk l.length (lenF (lenN m) n)) (.slice xa xl xc) (.slice ta tn tc) v6 l6 ns kq/\w6.iterPos W3.heap.size=pos+1):=by
      obtain⟨g1,g2,g3⟩:=aQ.out w6 v6 l6 aL.out
      exact⟨⟨g1,g2,hp,aE.out.names,aE.out.capn,aY.out,aZ.out,by rw[aM.out];exact aJ.out,aD.out,bS.out⟩,g3⟩
     clear aL aM aJ aD aQ aR z0 z1 z2 z3 z4 aY aZ bS o0 o1 o2 o3 o4
     go_wp2_with fail
     go_roundw
     case rel=>exact⟨pos+1,v6,l6,_,_,HE.out.1⟩
     case measure=>rw[HE.out.2,HI.out];omega
   ·have aR:=fun ty=>Lib.run_next_end_at (P:=Tryz.prog) wr W3.heap.size (bs (prt k)) pos ty bH (by rw[qaJ];exact hp)
    have aA:=hj.len
    rw[List.drop_of_length_le (by omega),lenP]at aA
    have HP:Hid (WPost B wb bk w (wk l.length (lenF (lenN m) n)) (.returned (.tuple #[])) wr):=⟨rfl,v',l',hj.wrt.from bU.out,aA⟩
    obtain⟨xa,xl,xc,rfl,bZ⟩:=hj.capn
    obtain⟨ya,yl,yc,rfl,cA⟩:=hj.capk
    clear hj bH aA
    go_wp2_with fail
    refine bodyPost_end (results_none rfl _ _ _) rfl ?_
    exact HP.out
end Go.Proofs.YtelogmjfekhmpaaGreatDoor
