import Derived.Test.YtelogmjfekhmpaaGreatDoorMark2
import Derived.Test.YtelogmjfekhmpaaGreatDoorMarkK
namespace Go.Proofs.YtelogmjfekhmpaaGreatDoor
set_option maxRecDepth 100000
set_option maxHeartbeats 16000000
open Go.RowKit
def qjU (n:Nat):Prop:=∀ (L:List Spot) (v:Value) (k:Int) (w:World),SpR w n v L->1<=k->k+L.length<=1000000000 ->
 Calls Tryz.prog 18 #[v,.int .i64 k] w fun e w'=>e=.returned (.int .i64 (k+L.length))/\Wrote L k w w'
theorem xaC:qjU 0:=by
 intro L v k w h h0 h1
 obtain⟨ao,cap,rfl,rfl⟩:=h
 have HP:Hid (Wrote [] k w w/\k=k+(([]:List Spot).length:Int)):=⟨Wrote.refl k w,by simp⟩
 go_enter Tryz.func18,Tryz.ntmps18
 go_wp2_with fail
 go_rounds 1
 go_ret
 exact⟨qaN HP.out.2,HP.out.1⟩
theorem xaD (n:Nat) (hn:qjU n):qjU (n+1):=by
 intro L v k w h h0 h1
 have aT:=h.ok
 obtain⟨ao,cap,Ls,rfl,aQ,rfl,hi⟩:=h
 unfold maxLen at aQ
 have bC:=hidF aT
 have aJ:Hid (∀ j,(Ls.take j).flatten.length<=Ls.flatten.length):=fun j=>qgP Ls j
 have HB:=hidF h1
 clear aT h1
 go_enter Tryz.func18,Tryz.ntmps18
 go_wp2_with fail
 go_loopw [1,5] (fun a i wr=>∃ j:Nat,j<=Ls.length/\i=.int .i64 j/\a=.int .i64 (k+((Ls.take j).flatten.length:Int))/\Wrote (Ls.take j).flatten k w wr) (fun _ i _=>Ls.length - (intOf i).toNat)
 case atStart=>exact⟨0,Nat.zero_le _,rfl,by simp,by simpa using Wrote.refl k w⟩
 case round=>
  obtain⟨j,hj,rfl,rfl,aF⟩:=hrel
  by_cases hlt:j<Ls.length
  ·obtain⟨b,off,c3,c4,L3,L4,rfl,aR,aB,aI,aZ,hN,hR⟩:=hi j hlt
   have aA:=qkT Ls j hlt
   have aK:=aJ.out (j+1)
   rw[aA,aR]at aK
   simp only[List.length_append]at aK
   have aL:(sp5 b (off+j*5)).length=3:=rfl
   have bD:k+((Ls.take j).flatten.length:Int)+3+L3.length+L4.length<=1000000000:=by have:=HB.out;omega
   have aC:∀ s,s∈(Ls.take j).flatten->s.ok w:=fun s hs=>bC.out s (by
    obtain⟨Li,h1,h2⟩:=List.mem_flatten.1 hs
    exact List.mem_flatten.2 ⟨Li,List.mem_of_mem_take h1,h2⟩)
   obtain⟨M,hM⟩:∃ M,M=(Ls.take j).flatten:=⟨_,rfl⟩
   rw[<- hM]at aF aC aA bD ⊢
   clear hM
   have aD:=aF.sim aC
   have o0:=Spot.ok_sim (aB ⟨b,off+j*5,false⟩ (by simp[sp5])) aD
   have o1:=Spot.ok_sim (aB ⟨b,off+j*5+1,false⟩ (by simp[sp5])) aD
   have o2:=Spot.ok_sim (aB ⟨b,off+j*5+2,true⟩ (by simp[sp5])) aD
   obtain⟨⟨x0,r0⟩,z0⟩:=o0
   obtain⟨⟨x1,r1⟩,z1⟩:=o1
   obtain⟨⟨x2,r2⟩,z2⟩:=o2
   simp only[Spot.at]at r0 r1 r2 z0 z1 z2
   generalize hkk:k+(M.length:Int)=kk at *
   have bE:1<=kk:=by omega
   have W1:=aF.snocI ⟨b,off+j*5,false⟩ hkk.symm ⟨b,off+j*5,none⟩ (.int .i64 kk) rfl rfl
   have W2:=W1.snocI (kk:=kk+1) ⟨b,off+j*5+1,false⟩ (by simp;omega) ⟨b,off+j*5+1,none⟩ (.int .i64 (kk+1)) rfl rfl
   have aU:Hid _:=W2
   have c2:((wr.setCell ⟨b,off+j*5,none⟩ (.int .i64 kk)).setCell ⟨b,off+j*5+1,none⟩ (.int .i64 (kk+1))).cell? ⟨b,off+j*5+2,none⟩=some (.string x2):=by
    rw[World.cell?_setCell_other _ _ _ _ (by simp),World.cell?_setCell_other _ _ _ _ (by simp)];exact r2
   have f2:((wr.setCell ⟨b,off+j*5,none⟩ (.int .i64 kk)).setCell ⟨b,off+j*5+1,none⟩ (.int .i64 (kk+1))).frozen? ⟨b,off+j*5+2,none⟩=false:=by
    rw[World.frozen?_setCell,World.frozen?_setCell];exact z2
   have HC:Hid (Calls Tryz.prog 36 #[.int .i64 (kk+1+1)] ((wr.setCell ⟨b,off+j*5,none⟩ (.int .i64 kk)).setCell ⟨b,off+j*5+1,none⟩ (.int .i64 (kk+1))) fun e w'=>e=.returned (.string (mt (kk+1+1))) /\
     w'.cell? ⟨b,off+j*5+2,none⟩=some (.string x2)/\w'.frozen? ⟨b,off+j*5+2,none⟩=false/\Wrote (M++sp5 b (off+j*5)) k w (w'.setCell ⟨b,off+j*5+2,none⟩ (.string (mt (kk+1+1))))):=by
    refine (qfS (kk+1+1) _ (by omega) (by omega)).mono ?_
    rintro e w' ⟨rfl,hb⟩
    refine⟨rfl,(hb.cell (p:=⟨b,off+j*5+2,none⟩) (mlt (o:=off+j*5+2) c2)).trans c2,(hb.frozen (p:=⟨b,off+j*5+2,none⟩) (mlt (o:=off+j*5+2) c2)).trans f2,?_⟩
    have:=(aU.out.below hb).snocI (kk:=kk+1+1) ⟨b,off+j*5+2,true⟩ (by simp;omega) ⟨b,off+j*5+2,none⟩ (.string (mt (kk+1+1))) rfl rfl
    simpa [sp5] using this
   have aG:Hid (∀ s,s∈M++sp5 b (off+j*5)->s.ok w):=fun s hs=>by
    rcases List.mem_append.1 hs with h|h
    ·exact aC s h
    ·exact aB s h
   have HN:Hid (SpN w c3 L3/\SpR w n c4 L4/\w.cell? ⟨b,off+j*5+3,none⟩=some c3/\w.cell? ⟨b,off+j*5+4,none⟩=some c4):=⟨hN,hR,aI,aZ⟩
   obtain⟨na,nl,nc,rfl⟩:=hN.slice
   obtain⟨ka,kl,kc,rfl⟩:=hR.slice
   have aV:Hid ((Ls.take (j+1)).flatten=M++(sp5 b (off+j*5)++(L3++L4))):=by show _=_;rw[aA,aR]
   have aM:=hidF hkk
   clear hN hR aI aZ hi W1 W2 aU aD aF aB aC aA aR aK c2 f2 r2 z2 hkk
   generalize mt (kk+1+1)=tx at *
   go_wp2_with fail
   refine HC.out.mono ?_
   rintro e w3 ⟨rfl,aI,bH,aS⟩
   have aN:=aS.sim aG.out
   have q3:=aN.sl _ _ _ _ _ HN.out.2.2.1
   have aW:Hid (Calls Tryz.prog 17 _ _ _):=qgU L3 _ (kk+1+1+1) _ (HN.out.1.sim aN) (by omega) (by omega)
   have aX:Hid _:=aS
   clear aN aS HC
   go_wp2_with fail
   refine aW.out.mono ?_
   rintro e w5 ⟨rfl,bA⟩
   have aE:Wrote (M++sp5 b (off+j*5)++L3) k w w5:=aX.out.trans (by
    rw[show k+((M++sp5 b (off+j*5)).length:Int)=kk+1+1+1 by have:=aM.out;rw[List.length_append,aL];omega];exact bA)
   have aO:Hid (∀ s,s∈M++sp5 b (off+j*5)++L3->s.ok w):=fun s hs=>by
    rcases List.mem_append.1 hs with h|h
    ·exact aG.out s h
    ·exact HN.out.1.ok s h
   have aP:=aE.sim aO.out
   have q4:=aP.sl _ _ _ _ _ HN.out.2.2.2
   have aY:Hid (Calls Tryz.prog 18 _ _ _):=hn L4 _ (kk+1+1+1+L3.length) w5 (HN.out.2.1.sim aP) (by omega) (by omega)
   have aH:Hid _:=aE
   clear aP aE bA aX q3 aI bH aW
   go_wp2_with fail
   refine aY.out.mono ?_
   rintro e w6 ⟨rfl,bB⟩
   have bF:Hid (Wrote (Ls.take (j+1)).flatten k w w6):=by
    show Wrote _ _ _ _
    rw[aV.out]
    have:=aH.out.trans (M:=L4) (w2:=w6) (by
     rw[show k+((M++sp5 b (off+j*5)++L3).length:Int)=kk+1+1+1+(L3.length:Int) by have:=aM.out;rw[List.length_append,List.length_append,aL];omega];exact bB)
    simpa [List.append_assoc] using this
   have bG:Hid (kk+1+1+1+(L3.length:Int)+(L4.length:Int)=k+((Ls.take (j+1)).flatten.length:Int)):=by
    show _=_
    rw[aV.out]
    have:=aM.out
    simp only[List.length_append,aL]
    omega
   clear bB aH aY q4
   go_wp2_with fail
   go_roundw
   case rel=>exact⟨j+1,by omega,by go_num,by rw[bG.out],bF.out⟩
   case measure=>simp[intOf];omega
  ·have HW:Hid (Wrote Ls.flatten k w wr/\k+((Ls.take j).flatten.length:Int)=k+(Ls.flatten.length:Int)):=by
    rw[show j=Ls.length by omega,List.take_length]at aF ⊢
    exact⟨aF,rfl⟩
   clear hi aF
   go_wp2_with fail
   go_ret
   exact⟨qaN HW.out.2,HW.out.1⟩
theorem qrC:∀ n,qjU n:=by
 intro n
 induction n with
 | zero=>exact xaC
 | succ n ih=>exact xaD n ih
def qjV (n:Nat):Prop:=∀ (L:List Spot) (v:Value) (k:Int) (w:World),SpR w n v L->Holds w L k->1<=k->k+L.length<=1000000000 ->
 Calls Tryz.prog 20 #[v,.int .i64 k] w fun e w'=>e=.returned (.int .i64 (k+L.length))/\Below w.heap.size w w'
theorem xaE:qjV 0:=by
 intro L v k w h _ h0 h1
 obtain⟨ao,cap,rfl,rfl⟩:=h
 have HP:Hid (k=k+(([]:List Spot).length:Int)):=by show _=_;simp
 go_enter Tryz.func20,Tryz.ntmps20
 go_wp2_with fail
 go_rounds 1
 go_ret
 exact⟨qaN HP.out,Below.refl _ _⟩
theorem xaF (n:Nat) (hn:qjV n):qjV (n+1):=by
 intro L v k w h hh h0 h1
 have aP:=h.ok
 obtain⟨ao,cap,Ls,rfl,aL,rfl,hi⟩:=h
 unfold maxLen at aL
 have bB:=hidF aP
 have HH:Hid (Holds w Ls.flatten k):=hh
 have aH:Hid (∀ j,(Ls.take j).flatten.length<=Ls.flatten.length):=fun j=>qgP Ls j
 have HB:=hidF h1
 clear aP hh h1
 go_enter Tryz.func20,Tryz.ntmps20
 go_wp2_with fail
 go_loopw [1,5] (fun a i wr=>∃ j:Nat,j<=Ls.length/\i=.int .i64 j/\a=.int .i64 (k+((Ls.take j).flatten.length:Int))/\Below w.heap.size w wr) (fun _ i _=>Ls.length - (intOf i).toNat)
 case atStart=>exact⟨0,Nat.zero_le _,rfl,by simp,Below.refl _ _⟩
 case round=>
  obtain⟨j,hj,rfl,rfl,aA⟩:=hrel
  by_cases hlt:j<Ls.length
  ·obtain⟨b,off,c3,c4,L3,L4,rfl,aF,aM,aS,aT,hN,hR⟩:=hi j hlt
   have aB:=qkT Ls j hlt
   have aI:=aH.out (j+1)
   rw[aB,aF]at aI
   simp only[List.length_append]at aI
   have aQ:(sp5 b (off+j*5)).length=3:=rfl
   have bC:k+((Ls.take j).flatten.length:Int)+3+L3.length+L4.length<=1000000000:=by have:=HB.out;omega
   have aJ:=qyE HH.out j hlt
   rw[aF]at aJ
   have aW:Hid (k+((Ls.take j).flatten.length:Int)+1+1+1+(L3.length:Int)+(L4.length:Int)=k+((Ls.take (j+1)).flatten.length:Int)):=by
    show _=_
    rw[aB,aF]
    simp only[List.length_append,aQ]
    omega
   have bD:0<=((Ls.take j).flatten.length:Int):=by omega
   generalize hkk:k+((Ls.take j).flatten.length:Int)=kk at *
   have aX:1<=kk:=by omega
   clear hkk
   obtain⟨aZ,aE⟩:=qgT aJ
   obtain⟨aN,aO⟩:=qgT aE
   rw[aQ]at aN aO
   obtain⟨g0,g1,g2,-⟩:=aZ
   have g0':w.cell? ⟨b,off+j*5,none⟩=some (.int .i64 kk):=g0
   have g1':w.cell? ⟨b,off+j*5+1,none⟩=some (.int .i64 (kk+1)):=g1
   have g2':w.cell? ⟨b,off+j*5+2,none⟩=some (.string (mt (kk+1+1))):=g2
   have aD:=mlt g0'
   have f0:=(aA.cell (p:=⟨b,off+j*5,none⟩) aD).trans g0'
   have f1:=(aA.cell (p:=⟨b,off+j*5+1,none⟩) aD).trans g1'
   have f2:=(aA.cell (p:=⟨b,off+j*5+2,none⟩) aD).trans g2'
   have HQ:Hid (∀ W,Below w.heap.size w W->W.cell? ⟨b,off+j*5+3,none⟩=some c3/\W.cell? ⟨b,off+j*5+4,none⟩=some c4):=fun W hW=>⟨(hW.cell (p:=⟨b,off+j*5+3,none⟩) aD).trans aS,(hW.cell (p:=⟨b,off+j*5+4,none⟩) aD).trans aT⟩
   have HN:Hid (∀ W,Below w.heap.size w W->Calls Tryz.prog 19 #[c3,.int .i64 (kk+1+1+1)] W fun e w'=>e=.returned (.int .i64 (kk+1+1+1+L3.length))/\Below W.heap.size W w'):=fun W hW=>
    qgV L3 c3 _ W (hN.below hW) (by have:=aN.below hN.ok hW;rwa [show kk+((3:Nat):Int)=kk+1+1+1 by omega]at this) (by omega) (by omega)
   have HR:Hid (∀ W,Below w.heap.size w W->Calls Tryz.prog 20 #[c4,.int .i64 (kk+1+1+1+L3.length)] W fun e w'=>e=.returned (.int .i64 (kk+1+1+1+L3.length+L4.length))/\Below W.heap.size W w'):=fun W hW=>
    hn L4 c4 _ W (hR.below hW) (by have:=aO.below hR.ok hW;rwa [show kk+((3:Nat):Int)+(L3.length:Int)=kk+1+1+1+(L3.length:Int) by omega]at this) (by omega) (by omega)
   have aY:=aA.size
   have HC:Hid (Calls Tryz.prog 36 #[.int .i64 (kk+1+1)] wr.drew fun e w'=>e=.returned (.string (mt (kk+1+1)))/\Below w.heap.size w w' /\ w'.cell? ⟨b,off+j*5+2,none⟩=some (.string (mt (kk+1+1)))):=by
    refine (qfS (kk+1+1) wr.drew (by omega) (by omega)).mono ?_
    rintro e w' ⟨rfl,hb⟩
    have aR:Below w.heap.size w w':=aA.trans ((((Below.refl _ _).drew).trans hb).mono aY)
    exact⟨rfl,aR,(aR.cell (p:=⟨b,off+j*5+2,none⟩) aD).trans g2'⟩
   obtain⟨na,nl,nc,rfl⟩:=hN.slice
   obtain⟨ka,kl,kc,rfl⟩:=hR.slice
   clear hN hR aS aT hi aM aB aF aI g0 g1 g2 g0' g1' g2' aJ aE aN aO
   generalize mt (kk+1+1)=tx at *
   have bE:(kk != kk)=false:=by simp
   have bF:(kk+1 != kk+1)=false:=by simp
   go_wp2_with fail
   go_region_law (go_simp;go_at_call 36;refine HC.out.mono ?_;rintro e w1 ⟨rfl,aG,bA⟩)
   all_goals
    obtain⟨p3,p4⟩:=HQ.out _ aG
    clear bA f0 f1 f2
    go_wp2_with fail
    refine (HN.out _ aG).mono ?_
    rintro e w2 ⟨rfl,aU⟩
    have aC:=qaA aG aG.size aU
    obtain⟨p3',p4'⟩:=HQ.out _ aC
    clear aU p3 p4
    go_wp2_with fail
    refine (HR.out _ aC).mono ?_
    rintro e w3 ⟨rfl,aV⟩
    have aK:=qaA aC aC.size aV
    clear aV p3' p4'
    go_wp2_with fail
    go_roundw
    case rel=>exact⟨j+1,by omega,by go_num,by rw[<- aW.out],aK⟩
    case measure=>simp[intOf];omega
  ·have HW:Hid (k+((Ls.take j).flatten.length:Int)=k+(Ls.flatten.length:Int)):=by
    show _=_
    rw[show j=Ls.length by omega,List.take_length]
   clear hi
   go_wp2_with fail
   go_ret
   exact⟨qaN HW.out,aA⟩
theorem qrD:∀ n,qjV n:=by
 intro n
 induction n with
 | zero=>exact xaE
 | succ n ih=>exact xaF n ih
theorem qtS (n:Nat) (x0 x1:Int) (x2:ByteArray) (c3 c4:Value) (L3 L4:List Spot) (k:Int) (w:World) (h3:SpN w c3 L3) (h4:SpR w n c4 L4) (h0:1<=k) (h1:k+L3.length+L4.length<=1000000000) :
  Calls Tryz.prog 8 #[.agg #[.int .i64 x0,.int .i64 x1,.string x2,c3,c4],.int .i64 k] w fun e w'=>e=.returned (.int .i64 (k+L3.length+L4.length))/\Wrote (L3++L4) k w w':=by
 obtain⟨na,nl,nc,rfl⟩:=h3.slice
 obtain⟨ka,kl,kc,rfl⟩:=h4.slice
 have aA:=(Below.refl w.heap.size w).alloc (Nat.le_refl _) (.cells #[.int .i64 x0,.int .i64 x1,.string x2,.slice na nl nc,.slice ka kl kc] 25)
 have aB:=h3.below aA
 have HC:Hid (Calls Tryz.prog 17 _ _ _):=qgU L3 _ k _ aB h0 (by omega)
 have HR:Hid (SpR (w.alloc (.cells #[.int .i64 x0,.int .i64 x1,.string x2,.slice na nl nc,.slice ka kl kc] 25)) n (.slice ka kl kc) L4/\∀ s,s∈L3->s.ok (w.alloc (.cells #[.int .i64 x0,.int .i64 x1,.string x2,.slice na nl nc,.slice ka kl kc] 25))):=⟨h4.below aA,aB.ok⟩
 have hx:(w.alloc (.cells #[.int .i64 x0,.int .i64 x1,.string x2,.slice na nl nc,.slice ka kl kc] 25)).cell? ⟨w.heap.size,4,none⟩=some (.slice ka kl kc):=by simp[go_sem]
 clear h3 h4 aB
 go_enter Tryz.func8,Tryz.ntmps8
 go_wp2_with fail
 refine HC.out.mono ?_
 rintro e w1 ⟨rfl,hW⟩
 have hs:=hW.sim HR.out.2
 have q4:=hs.sl _ _ _ _ _ hx
 have aC:Hid (Calls Tryz.prog 18 _ _ _):=qrC n L4 _ (k+L3.length) w1 (HR.out.1.sim hs) (by omega) (by omega)
 have HW:Hid _:=hW
 clear hs hW HC HR
 go_wp2_with fail
 refine aC.out.mono ?_
 rintro e w2 ⟨rfl,aD⟩
 have HF:Hid (Wrote (L3++L4) k w w2):=Wrote.from_below aA (HW.out.trans aD)
 clear aD HW aC
 go_wp2_with fail
 go_ret
 exact⟨rfl,HF.out⟩
theorem qkY (n:Nat) (x0 x1:Int) (x2:ByteArray) (c3 c4:Value) (L3 L4:List Spot) (k:Int) (w:World) (h3:SpN w c3 L3) (h4:SpR w n c4 L4) (hh:Holds w (L3++L4) k) (h0:1<=k) (h1:k+L3.length+L4.length<=1000000000) :
  Calls Tryz.prog 9 #[.agg #[.int .i64 x0,.int .i64 x1,.string x2,c3,c4],.int .i64 k] w fun e w'=>e=.returned (.int .i64 (k+L3.length+L4.length))/\Below w.heap.size w w':=by
 obtain⟨na,nl,nc,rfl⟩:=h3.slice
 obtain⟨ka,kl,kc,rfl⟩:=h4.slice
 obtain⟨aF,aG⟩:=qgT hh
 have aB:=(Below.refl w.heap.size w).alloc (Nat.le_refl _) (.cells #[.int .i64 x0,.int .i64 x1,.string x2,.slice na nl nc,.slice ka kl kc] 25)
 have HC:Hid (Calls Tryz.prog 19 _ _ _):=qgV L3 _ k _ (h3.below aB) (aF.below h3.ok aB) h0 (by omega)
 have HR:Hid (∀ W,Below w.heap.size w W->Calls Tryz.prog 20 #[.slice ka kl kc,.int .i64 (k+L3.length)] W fun e w'=>e=.returned (.int .i64 (k+L3.length+L4.length))/\Below W.heap.size W w'):=fun W hW=>
  qrD n L4 _ (k+L3.length) W (h4.below hW) (aG.below h4.ok hW) (by omega) (by omega)
 have hx:(w.alloc (.cells #[.int .i64 x0,.int .i64 x1,.string x2,.slice na nl nc,.slice ka kl kc] 25)).cell? ⟨w.heap.size,4,none⟩=some (.slice ka kl kc):=by simp[go_sem]
 have e1:¬ k+(L3.length:Int)<0:=by omega
 have e2:¬ k+(L3.length:Int)+(L4.length:Int)<0:=by omega
 clear h3 h4 hh aF aG
 go_enter Tryz.func9,Tryz.ntmps9
 go_wp2_with fail
 refine HC.out.mono ?_
 rintro e w1 ⟨rfl,aD⟩
 have q4:=(aD.cell (p:=⟨w.heap.size,4,none⟩) (by show w.heap.size<_;simp)).trans hx
 have aA:=qaA aB (by simp) aD
 have aE:Hid (Calls Tryz.prog 20 _ _ _):=HR.out w1 aA
 clear HC HR aD
 go_wp2_with fail
 refine aE.out.mono ?_
 rintro e w2 ⟨rfl,aH⟩
 have aC:=qaA aA aA.size aH
 clear aH aE
 go_wp2_with fail
 go_ret
 exact⟨rfl,aC⟩
end Go.Proofs.YtelogmjfekhmpaaGreatDoor
