import Derived.Test.YtelogmjfekhmpaaGreatDoorKRd1
namespace Go.Proofs.YtelogmjfekhmpaaGreatDoor
set_option maxRecDepth 100000
set_option maxHeartbeats 16000000
open Go.RowKit
theorem xeC {S:Nat->Prop} {w:World} {m:Nat} {x:Int} {t:K m} {b c:Nat} {c0 c1 c2:Value} (hx:(Lit.int .i64 x).wf=true) (hb:S b) (h0:w.cell? ⟨b,0,none⟩=some c0) (h1:w.cell? ⟨b,1,none⟩=some c1) (h2:w.cell? ⟨b,2,none⟩=some c2) (ht:KindIn S w m t c0 c1 c2) :
  KindIn S w (m+1) (⟨x,[],[t]⟩:Kd (K m)) (.int .i64 x) (.slice none 0 0) (.slice (some ⟨b,0,none⟩) 1 c):=by
 refine⟨rfl,hx,⟨none,0,rfl,by simp[maxLen],fun s h=>(by cases h),fun h=>absurd rfl h⟩,⟨some ⟨b,0,none⟩,c,rfl,by simp[maxLen],fun _=>⟨b,0,rfl,hb,fun i hi=>?_⟩⟩⟩
 have:i=0:=by simpa using hi
 subst this
 exact⟨c0,c1,c2,by simpa using h0,by simpa using h1,by simpa using h2,ht⟩
theorem xgZ (n:Nat) (hn:qfM n) (m R:Nat) (s:ByteArray) (i:Nat) (w:World) (hm:n+1<=m) (hn6:n<=6) (h:RdS w R s i false) (hs:s.size<=10000) (hi:i<=s.size) (hl:lookB s i=63) :
  Calls Tryz.prog 41 #[.pointer (some ⟨R,0,none⟩),.int .i64 (7 - ((n+1:Nat):Int))] w (qbD (m+1) (n+1) w R s i false):=by
 have hR:=h.lt
 obtain⟨W1,aE⟩:∃ W1,W1=w.alloc (.cells #[.int .i64 0,.slice none 0 0,.slice none 0 0] 55):=⟨_,rfl⟩
 have aS:W1.heap.size=w.heap.size+1:=by rw[aE];simp
 have aL:Below w.heap.size w W1:=by rw[aE];exact (Below.refl _ _).alloc (Nat.le_refl _) _
 have aD:W1.heap[w.heap.size]?=some (.cells #[.int .i64 0,.slice none 0 0,.slice none 0 0] 55 (0,0)):=by rw[aE];exact heap_alloc_new _ _
 have aH:RdS W1 R s i false:=(aL.block R hR).trans h
 have c2:=aH.cell2
 rw[aE]at c2
 have aO:¬ (6:Int)<7 - ((n+1:Nat):Int):=by omega
 have HL:Hid (Calls Tryz.prog 56 #[.pointer (some ⟨R,0,none⟩)] W1 fun e w'=>e=.returned (.int .u8 (((lookB s i).toNat:Nat):Int))/\Near R w w' /\ RdS w' R s i false/\w'.heap.size=w.heap.size+1/\w'.heap[w.heap.size]?=some (.cells #[.int .i64 0,.slice none 0 0,.slice none 0 0] 55 (0,0))):=
  (qbL W1 R s i false aH).mono fun e w' ⟨he,k,hk⟩=>by
   subst hk
   exact⟨he,((Near.of_below aL).trans (Near.refl R W1)).drewN k,aH.drewN k,aS,aD⟩
 have aT:Hid (lookB s i=63):=hl
 have aM:Hid (_/\_):=qwZ hl (by decide)
 have hc:((lookB s i).toNat:Nat)=63:=by rw[hl];rfl
 rw[hc]at HL
 have aV:IntKind.i64.wrap (7 - ((n+1:Nat):Int)+1)=7 - (n:Int):=by rw[IntKind.wrap_i64];omega
 have HN:Hid (qfM n):=hn
 clear aH aD aL h hl hc hn
 generalize hdp:7 - ((n+1:Nat):Int)=dp at *
 clear hdp
 go_enter Tryz.func41,Tryz.ntmps41
 go_wp2_with fail
 rw[<- aE]
 clear aE c2
 refine HL.out.mono ?_
 rintro e w2 ⟨rfl,aQ,aR,aY,aC⟩
 have HE:Hid (Calls Tryz.prog 57 #[.pointer (some ⟨R,0,none⟩),.string ⟨#[63]⟩] w2 _):=qcK w2 R s ⟨#[63]⟩ i false aR hs (by decide) hi
 clear HL aR
 go_wp2_with fail
 refine HE.out.mono ?_
 rintro e w3 ⟨rfl,aJ,⟨q1,q2,q3⟩|⟨q1,q3⟩⟩
 case inr=>
  have q1:eatP [63] (s.data.toList.drop i)=none:=q1
  rw[aM.out.1]at q1
  cases q1
 have q3:RdS w3 R s ((i+1:Nat):Int) false:=q3
 have aW:=aJ.size
 have aA:=(aJ.block w.heap.size (by omega) (by omega)).trans aC
 have aF:=aQ.trans aJ
 have aU:=aM.out.2
 have HK:Hid (Calls Tryz.prog 41 #[.pointer (some ⟨R,0,none⟩),.int .i64 (7 - (n:Int))] w3 (qbD m n w3 R s (i+1) false)):=HN.out m R s (i+1) false w3 hm q3 hs (fun _=>by omega) (by omega)
 clear HE aQ aJ aC q1 q2 q3 HN aM
 go_wp2_with fail
 refine HK.out.mono ?_
 rintro e w4 ⟨aK,t,d0,d1,d2,i1,bad1,rfl,ht,aN,hG⟩
 obtain⟨u0,ua,ul,uc,ya,yl,yc,rfl,rfl,rfl⟩:=ht.shape
 have aX:=aK.size
 have aB:=(aK.block w.heap.size (by omega) (by omega)).trans aA
 have aG:=aF.trans aK
 clear HK aA aF
 have aI:=Box3.new w4 (.int .i64 u0) (.slice ua ul uc) (.slice ya yl yc) 55
 have aP:Near R w (w4.alloc (.cells #[.int .i64 u0,.slice ua ul uc,.slice ya yl yc] 55)):=aG.trans (Near.alloc _ _ _)
 obtain⟨⟨r0,r1,r2⟩,f0,f1,f2⟩:=qbY ((Below.heap_alloc w4 (.cells #[.int .i64 u0,.slice ua ul uc,.slice ya yl yc] 55) w.heap.size (by omega)).trans aB)
 have HP:Hid (qbD (m+1) (n+1) w R s i false (.returned (.agg #[.int .i64 6,.slice none 0 0,.slice (some ⟨w4.heap.size,0,none⟩) 1 1])) (put3 (w4.alloc (.cells #[.int .i64 u0,.slice ua ul uc,.slice ya yl yc] 55)) w.heap.size 0 (.int .i64 6) (.slice none 0 0) (.slice (some ⟨w4.heap.size,0,none⟩) 1 1))):=by
  refine qgL aP hR ((Below.heap_alloc _ _ _ (by have:=aN.lt;omega)).trans aN) (xeC (t:=t) rfl ⟨by omega,by simp⟩ aI.c0 aI.c1 aI.c2 ?_) (xeA aT.out hG)
  exact ht.keep (fun b hb=>Below.heap_alloc _ _ _ hb.2) (fun b hb=>⟨by omega,by simp;omega⟩)
 clear aN hG ht aI aP aB aG aK
 go_wp2_with fail
 refine bodyPost_ret (v:=.agg #[.int .i64 6,.slice none 0 0,.slice (some ⟨w4.heap.size,0,none⟩) 1 1]) (by simp[results,Tryz.results41,go_sem,r0,r1,r2]) rfl ?_
 exact HP.out
theorem xjM (n:Nat) (hn:qfM n) (m R:Nat) (s:ByteArray) (i:Nat) (w:World) (hm:n+1<=m) (hn6:n<=6) (h:RdS w R s i false) (hs:s.size<=10000) (hi:i<=s.size) (hl:lookB s i=91) :
  Calls Tryz.prog 41 #[.pointer (some ⟨R,0,none⟩),.int .i64 (7 - ((n+1:Nat):Int))] w (qbD (m+1) (n+1) w R s i false):=by
 have hR:=h.lt
 obtain⟨W1,aG⟩:∃ W1,W1=w.alloc (.cells #[.int .i64 0,.slice none 0 0,.slice none 0 0] 55):=⟨_,rfl⟩
 have bA:W1.heap.size=w.heap.size+1:=by rw[aG];simp
 have aQ:Below w.heap.size w W1:=by rw[aG];exact (Below.refl _ _).alloc (Nat.le_refl _) _
 have aF:W1.heap[w.heap.size]?=some (.cells #[.int .i64 0,.slice none 0 0,.slice none 0 0] 55 (0,0)):=by rw[aG];exact heap_alloc_new _ _
 have aL:RdS W1 R s i false:=(aQ.block R hR).trans h
 have c2:=aL.cell2
 rw[aG]at c2
 have aU:¬ (6:Int)<7 - ((n+1:Nat):Int):=by omega
 have HL:Hid (Calls Tryz.prog 56 #[.pointer (some ⟨R,0,none⟩)] W1 fun e w'=>e=.returned (.int .u8 (((lookB s i).toNat:Nat):Int))/\Near R w w' /\ RdS w' R s i false/\w'.heap.size=w.heap.size+1/\w'.heap[w.heap.size]?=some (.cells #[.int .i64 0,.slice none 0 0,.slice none 0 0] 55 (0,0))):=
  (qbL W1 R s i false aL).mono fun e w' ⟨he,k,hk⟩=>by
   subst hk
   exact⟨he,((Near.of_below aQ).trans (Near.refl R W1)).drewN k,aL.drewN k,bA,aF⟩
 have aR:Hid (lookB s i=91):=hl
 have aS:Hid (_/\_):=qwZ hl (by decide)
 have hc:((lookB s i).toNat:Nat)=91:=by rw[hl];rfl
 rw[hc]at HL
 have bC:IntKind.i64.wrap (7 - ((n+1:Nat):Int)+1)=7 - (n:Int):=by rw[IntKind.wrap_i64];omega
 have HN:Hid (qfM n):=hn
 clear aL aF aQ h hl hc hn
 generalize hdp:7 - ((n+1:Nat):Int)=dp at *
 clear hdp
 go_enter Tryz.func41,Tryz.ntmps41
 go_wp2_with fail
 rw[<- aG]
 clear aG c2
 refine HL.out.mono ?_
 rintro e w2 ⟨rfl,aW,aX,bI,aE⟩
 have HE:Hid (Calls Tryz.prog 57 #[.pointer (some ⟨R,0,none⟩),.string ⟨#[91]⟩] w2 _):=qcK w2 R s ⟨#[91]⟩ i false aX hs (by decide) hi
 clear HL aX
 go_wp2_with fail
 refine HE.out.mono ?_
 rintro e w3 ⟨rfl,aN,⟨q1,q2,q3⟩|⟨q1,q3⟩⟩
 case inr=>
  have q1:eatP [91] (s.data.toList.drop i)=none:=q1
  rw[aS.out.1]at q1
  cases q1
 have q3:RdS w3 R s ((i+1:Nat):Int) false:=q3
 have bD:=aN.size
 have aB:=(aN.block w.heap.size (by omega) (by omega)).trans aE
 have aI:=aW.trans aN
 have bB:=aS.out.2
 have HK:Hid (Calls Tryz.prog 41 #[.pointer (some ⟨R,0,none⟩),.int .i64 (7 - (n:Int))] w3 (qbD m n w3 R s (i+1) false)):=HN.out m R s (i+1) false w3 hm q3 hs (fun _=>by omega) (by omega)
 clear HE aW aN aE q1 q2 q3 HN aS
 go_wp2_with fail
 refine HK.out.mono ?_
 rintro e w4 ⟨aO,t,d0,d1,d2,i1,bad1,rfl,ht,aP,hG⟩
 obtain⟨u0,ua,ul,uc,ya,yl,yc,rfl,rfl,rfl⟩:=ht.shape
 have bE:=aO.size
 have aC:=(aO.block w.heap.size (by omega) (by omega)).trans aB
 have aJ:=aI.trans aO
 clear HK aB aI
 obtain⟨W5,aH⟩:∃ W5,W5=(w4.alloc (.cells #[.int .i64 u0,.slice ua ul uc,.slice ya yl yc] 55)).alloc (.cells #[.int .i64 4,.slice none 0 0,.slice (some ⟨w4.heap.size,0,none⟩) 1 1] 55):=⟨_,rfl⟩
 have bF:W5.heap.size=w4.heap.size+2:=by rw[aH];simp
 have aD:Below w4.heap.size w4 W5:=by rw[aH];exact ((Below.refl _ _).alloc (Nat.le_refl _) _).alloc (by simp) _
 have aM:Box3 W5 w4.heap.size (.int .i64 u0) (.slice ua ul uc) (.slice ya yl yc):=by
  rw[aH];exact (Box3.new w4 (.int .i64 u0) (.slice ua ul uc) (.slice ya yl yc) 55).keep ((Below.refl _ _).alloc (Nat.le_refl _) _)
 have aK:Box3 W5 (w4.heap.size+1) (.int .i64 4) (.slice none 0 0) (.slice (some ⟨w4.heap.size,0,none⟩) 1 1):=by
  have:=Box3.new (w4.alloc (.cells #[.int .i64 u0,.slice ua ul uc,.slice ya yl yc] 55)) (.int .i64 4) (.slice none 0 0) (.slice (some ⟨w4.heap.size,0,none⟩) 1 1) 55
  rw[aH];simpa using this
 have aT:RdS W5 R s i1 bad1:=(aD.block R aP.lt).trans aP
 have bG:=aP.lt
 obtain⟨g1,g2,g3,g4,g5⟩:=id hG
 have g3:=g3 rfl
 have HG:Hid (GotK m n s (i+1) false t i1 bad1):=hG
 have aV:Hid (Calls Tryz.prog 57 #[.pointer (some ⟨R,0,none⟩),.string ⟨#[93]⟩] W5 fun e w'=>e=.returned (.tuple #[])/\Near R W5 w' /\ ∃ (i':Nat) (bad':Bool),RdS w' R s i' bad' /\ GotK (m+1) (n+1) s i false (⟨4,[],[t]⟩:Kd (K m)) i' bad'):=by
  by_cases hin:i1<=s.size
  ·refine (qcK W5 R s ⟨#[93]⟩ i1 bad1 aT hs (by decide) hin).mono ?_
   rintro e w' ⟨rfl,hn,⟨q1,q2,q3⟩|⟨q1,q3⟩⟩
   ·exact⟨rfl,hn,i1+1,bad1,q3,qqK aR.out HG.out (.inl ⟨q1,q2,rfl,rfl⟩)⟩
   ·exact⟨rfl,hn,i1,true,q3,qqK aR.out HG.out (.inr ⟨fun _=>q1,rfl,rfl⟩)⟩
  ·refine (xjJ W5 R s ⟨#[93]⟩ i1 bad1 aT (by decide) (by have:(⟨#[93]⟩:ByteArray).size=1:=rfl;omega) (by omega)).mono ?_
   rintro e w' ⟨rfl,hn,q3⟩
   exact⟨rfl,hn,i1,true,q3,qqK aR.out HG.out (.inr ⟨fun hf=>absurd (g2 hf).2.2 hin,rfl,rfl⟩)⟩
 have HT:Hid (KindIn (fun b=>w3.heap.size<=b/\b<w4.heap.size) w4 m t (.int .i64 u0) (.slice ua ul uc) (.slice ya yl yc)):=ht
 clear hG aP aT ht g1 g2 g3 g4 g5
 go_wp2_with fail
 rw[<- aH]
 clear aH
 refine aV.out.mono ?_
 rintro e w6 ⟨rfl,aA,i2,bad2,aY,aZ⟩
 have bH:=aA.size
 have y6:=aK.c0
 have k0:w6.cell? ⟨w4.heap.size+1,0,none⟩=some (.int .i64 4):=(World.cell?_of_block (w:=W5) (w':=w6) (a:=⟨w4.heap.size+1,0,none⟩) (aA.block (w4.heap.size+1) (by omega) (by omega))).trans aK.c0
 have k1:w6.cell? ⟨w4.heap.size+1,1,none⟩=some (.slice none 0 0):=(World.cell?_of_block (w:=W5) (w':=w6) (a:=⟨w4.heap.size+1,1,none⟩) (aA.block (w4.heap.size+1) (by omega) (by omega))).trans aK.c1
 have k2:w6.cell? ⟨w4.heap.size+1,2,none⟩=some (.slice (some ⟨w4.heap.size,0,none⟩) 1 1):=(World.cell?_of_block (w:=W5) (w':=w6) (a:=⟨w4.heap.size+1,2,none⟩) (aA.block (w4.heap.size+1) (by omega) (by omega))).trans aK.c2
 obtain⟨⟨r0,r1,r2⟩,f0,f1,f2⟩:=qbY ((aA.block w.heap.size (by omega) (by omega)).trans ((aD.block _ (by omega)).trans aC))
 have HP:Hid (qbD (m+1) (n+1) w R s i false (.returned (.agg #[.int .i64 4,.slice none 0 0,.slice (some ⟨w4.heap.size,0,none⟩) 1 1])) (put3 w6 w.heap.size 0 (.int .i64 4) (.slice none 0 0) (.slice (some ⟨w4.heap.size,0,none⟩) 1 1))):=by
  have hc:∀ o,w6.cell? ⟨w4.heap.size,o,none⟩=W5.cell? ⟨w4.heap.size,o,none⟩:=fun o=>World.cell?_of_block (w:=W5) (w':=w6) (a:=⟨w4.heap.size,o,none⟩) (aA.block w4.heap.size (by omega) (by omega))
  refine qgL ((aJ.trans (Near.of_below aD)).trans aA) hR aY (xeC (t:=t) rfl ⟨by omega,by omega⟩ ((hc 0).trans aM.c0) ((hc 1).trans aM.c1) ((hc 2).trans aM.c2) ?_) aZ
  refine HT.out.keep (fun b hb=>?_) (fun b hb=>⟨by omega,by omega⟩)
  rw[aA.block b (by omega) (by omega),aD.block b hb.2]
 clear aV aA aY aZ aM aK y6 aD aC aJ aO HT HG
 go_wp2_with fail
 refine bodyPost_ret (v:=.agg #[.int .i64 4,.slice none 0 0,.slice (some ⟨w4.heap.size,0,none⟩) 1 1]) (by simp[results,Tryz.results41,go_sem,r0,r1,r2]) rfl ?_
 exact HP.out
end Go.Proofs.YtelogmjfekhmpaaGreatDoor
