import Derived.Test.YtelogmjfekhmpaaGreatDoorKRd1
import Derived.Deep.RegionLaw
import Derived.Deep.Cut
import Derived.Deep.CutRange
namespace Go.Proofs.YtelogmjfekhmpaaGreatDoor
set_option maxRecDepth 100000
set_option maxHeartbeats 16000000
open Go.RowKit
theorem Tryz.info_strR:(Tryz.prog.info? 9).map (fun i=>(i.zero,i.size,i.bytes))=some (some (.string ⟨#[]⟩),1,16):=by kernel_rfl
theorem Tryz.info_kindR:(Tryz.prog.info? 55).map (fun i=>(i.zero,i.size,i.bytes))=some (some (.agg #[.int .i64 0,.slice none 0 0,.slice none 0 0]),3,56):=by kernel_rfl
theorem xeD {m n R i i':Nat} {s:ByteArray} {bad':Bool} {w w3 wr:World} {ns:List ByteArray} {ks:List (K m)} {nv kv:Value} (hM:ManyK R w3.heap.size m w3 wr 5 ns ks nv kv) (hn3:Near R w w3) (hR:R<w.heap.size) (hz3:w.heap.size+1<=w3.heap.size) (hr:RdS wr R s i' bad') (hI:qfT m n s i ns ks i' bad') (hs:s.size<=10000) (hn6:n<=6)
  (h1n:¬ lookB s i=110) (h2n:¬ lookB s i=116) (h3n:¬ lookB s i=102) (h4n:¬ lookB s i=63) (h5n:¬ lookB s i=91) (hend:bad'=false->lookB s i'=125) :
  qbD (m+1) (n+1) w R s i false (.returned (.agg #[.int .i64 5,nv,kv])) (put3 (wr.setCell ⟨R,1,none⟩ (.int .i64 ((i':Int)+1))) w.heap.size 0 (.int .i64 5) nv kv):=by
 have hg:=xgY h1n h2n h3n h4n h5n hI hend
 obtain⟨q1,q2,q3,q4,q5,-⟩:=hI
 have aA:=hM.near.size
 have hl:ks.length<=20000:=by cases bad' <;> simp at q4 <;> omega
 refine qgL ((hn3.trans hM.near).trans (Near.set R 1 _ _)) hR (by have:=hr.set1 ((i':Int)+1);simpa using this) ?_ hg
 exact qzB hM (fun b hb=>Below.heap_setCell _ _ _ _ (by show b≠R;omega)) (by simp) (by omega) hl (by omega)
theorem xjN (n:Nat) (hn:qfM n) (m R:Nat) (s:ByteArray) (i:Nat) (w:World) (hm:n+1<=m) (hn6:n<=6) (h:RdS w R s i false) (hs:s.size<=10000) (hi:i<=s.size)
  (h1n:¬ lookB s i=110) (h2n:¬ lookB s i=116) (h3n:¬ lookB s i=102) (h4n:¬ lookB s i=63) (h5n:¬ lookB s i=91) :
  Calls Tryz.prog 41 #[.pointer (some ⟨R,0,none⟩),.int .i64 (7 - ((n+1:Nat):Int))] w (qbD (m+1) (n+1) w R s i false):=by
 have hR:=h.lt
 obtain⟨W1,aR⟩:∃ W1,W1=w.alloc (.cells #[.int .i64 0,.slice none 0 0,.slice none 0 0] 55):=⟨_,rfl⟩
 have cU:W1.heap.size=w.heap.size+1:=by rw[aR];simp
 have bF:Below w.heap.size w W1:=by rw[aR];exact (Below.refl _ _).alloc (Nat.le_refl _) _
 have aL:W1.heap[w.heap.size]?=some (.cells #[.int .i64 0,.slice none 0 0,.slice none 0 0] 55 (0,0)):=by rw[aR];exact heap_alloc_new _ _
 have aI:RdS W1 R s i false:=(bF.block R hR).trans h
 have c2:=aI.cell2
 rw[aR]at c2
 have cC:¬ (6:Int)<7 - ((n+1:Nat):Int):=by omega
 have HL:Hid (Calls Tryz.prog 56 #[.pointer (some ⟨R,0,none⟩)] W1 fun e w'=>e=.returned (.int .u8 (((lookB s i).toNat:Nat):Int))/\Near R w w' /\ RdS w' R s i false/\w'.heap.size=w.heap.size+1/\w'.heap[w.heap.size]?=some (.cells #[.int .i64 0,.slice none 0 0,.slice none 0 0] 55 (0,0))):=
  (qbL W1 R s i false aI).mono fun e w' ⟨he,k,hk⟩=>by
   subst hk
   exact⟨he,((Near.of_below bF).trans (Near.refl R W1)).drewN k,aI.drewN k,cU,aL⟩
 have aC:∀ c:UInt8,¬ lookB s i=c->((((lookB s i).toNat:Nat):Int)==(c.toNat:Int))=false:=fun c hc=>by
  rw[beq_eq_false_iff_ne]
  intro e
  apply hc
  apply UInt8.toNat_inj.1
  omega
 have e1:((((lookB s i).toNat:Nat):Int)==110)=false:=aC 110 h1n
 have e2:((((lookB s i).toNat:Nat):Int)==116)=false:=aC 116 h2n
 have e3:((((lookB s i).toNat:Nat):Int)==102)=false:=aC 102 h3n
 have e4:((((lookB s i).toNat:Nat):Int)==63)=false:=aC 63 h4n
 have e5:((((lookB s i).toNat:Nat):Int)==91)=false:=aC 91 h5n
 have aT:Hid (¬ lookB s i=110/\¬ lookB s i=116/\¬ lookB s i=102/\¬ lookB s i=63/\¬ lookB s i=91):=⟨h1n,h2n,h3n,h4n,h5n⟩
 have dG:IntKind.i64.wrap (7 - ((n+1:Nat):Int)+1)=7 - (n:Int):=by rw[IntKind.wrap_i64];omega
 have HN:Hid (qfM n):=hn
 clear aI aL bF h hn aC h1n h2n h3n h4n h5n
 generalize hdp:7 - ((n+1:Nat):Int)=dp at *
 clear hdp
 generalize ((lookB s i).toNat:Nat)=cc at *
 go_enter Tryz.func41,Tryz.ntmps41
 go_wp2_with fail
 rw[<- aR]
 clear aR c2
 refine HL.out.mono ?_
 rintro e w2 ⟨rfl,aK,aX,dL,aH⟩
 have HE:Hid (Calls Tryz.prog 57 #[.pointer (some ⟨R,0,none⟩),.string ⟨#[123]⟩] w2 _):=qcK w2 R s ⟨#[123]⟩ i false aX hs (by decide) hi
 clear HL aX
 go_wp2_with fail
 refine HE.out.mono ?_
 rintro e w3 ⟨rfl,bO,aM⟩
 have dH:=bO.size
 have aF:=(bO.block w.heap.size (by omega) (by omega)).trans aH
 have aU:=aK.trans bO
 obtain⟨i0,bad0,aS,cK⟩:∃ (i0:Nat) (bad0:Bool),RdS w3 R s i0 bad0/\qfT m n s i [] [] i0 bad0:=by
  rcases aM with ⟨q1,q2,q3⟩|⟨q1,q3⟩
  ·exact⟨i+1,false,q3,qoW hi (.inl ⟨q1,q2,rfl,rfl⟩)⟩
  ·exact⟨i,true,q3,qoW hi (.inr ⟨q1,rfl,rfl⟩)⟩
 have aV:Hid (Near R w w3/\w3.heap[w.heap.size]?=some (.cells #[.int .i64 0,.slice none 0 0,.slice none 0 0] 55 (0,0))):=⟨aU,aF⟩
 have cD:RdS (w3.alloc (.cells #[.int .i64 5,.slice none 0 0,.slice none 0 0] 55)) R s i0 bad0:=(Below.heap_alloc _ _ _ aS.lt).trans aS
 clear HE aM aK bO aH aF aU aS e1 e2 e3 e4 e5
 go_wp2_with fail
 go_loopw [71] (fun _ wr=>∃ (ns:List ByteArray) (ks:List (K m)) (j ln:Nat) (bad':Bool) (na:Option Addr) (nc:Nat) (ka:Option Addr) (kc:Nat),ns.length=ln/\ks.length=ln/\ManyK R w3.heap.size m w3 wr 5 ns ks (.slice na ln nc) (.slice ka ln kc)/\RdS wr R s j bad' /\ qfT m n s i ns ks j bad') (fun _ wr=>leftRK wr R s.size)
 case atStart=>exact⟨[],[],i0,0,bad0,none,0,none,0,rfl,rfl,ManyK.start,cD,cK⟩
 case round=>
  obtain⟨ns,ks,j,ln,bad',na,nc,ka,kc,cL,bX,hM,hr,hI⟩:=hrel
  have hX:=hM.lt
  have dI:=hM.near.size
  have x0:wr.cell? ⟨w3.heap.size,0,none⟩=some (.int .i64 5):=by simp[World.cell?,hM.box]
  have x1:wr.cell? ⟨w3.heap.size,1,none⟩=some (.slice na ln nc):=by simp[World.cell?,hM.box]
  have x2:wr.cell? ⟨w3.heap.size,2,none⟩=some (.slice ka ln kc):=by simp[World.cell?,hM.box]
  have d1:=hr.cell1
  have d2:=hr.cell2
  have df:=hr.free 1
  have cV:=hI
  obtain⟨dM,cM,dN,bP,-,-⟩:=cV
  rw[bX]at bP
  have aJ:Hid (ns.length=ln/\ks.length=ln):=⟨cL,bX⟩
  have HM:Hid (ManyK R w3.heap.size m w3 wr 5 ns ks (.slice na ln nc) (.slice ka ln kc)):=hM
  have HR:Hid (RdS wr R s j bad'):=hr
  have HI:Hid (qfT m n s i ns ks j bad'):=hI
  have dJ:IntKind.i64.wrap ((j:Int)+1)=(j:Int)+1:=by rw[IntKind.wrap_i64];omega
  have cW:ln<=10010:=by cases bad' <;> simp at bP <;> omega
  obtain⟨⟨r0,r1,r2⟩,f0,f1,f2⟩:=qbY ((hM.near.block w.heap.size (by omega) (by omega)).trans aV.out.2)
  have aG:Hid ((bad'=false->lookB s j=125)->∀ q,qbD (m+1) (n+1) w R s i false (.returned (.agg #[.int .i64 5,.slice na ln nc,.slice ka ln kc])) (put3 ((wr.drewN q).setCell ⟨R,1,none⟩ (.int .i64 ((j:Int)+1))) w.heap.size 0 (.int .i64 5) (.slice na ln nc) (.slice ka ln kc))):=fun he q=>
   xeD (HM.out.keep (by omega) ((Near.refl R wr).drewN q)) aV.out.1 hR (by omega) (HR.out.drewN q) HI.out hs hn6 aT.out.1 aT.out.2.1 aT.out.2.2.1 aT.out.2.2.2.1 aT.out.2.2.2.2 he
  clear hM hr hI cL bX cD cK
  cases bad' with
  | true=>
   have HZ:Hid _:=aG.out (fun h=>by cases h) 0
   clear aG
   go_wp2_with fail
   refine bodyPost_ret (v:=.agg #[.int .i64 5,.slice na ln nc,.slice ka ln kc]) (by simp[results,Tryz.results41,go_sem,r0,r1,r2]) rfl ?_
   exact HZ.out
  | false=>
   have bQ:j<=s.size:=(cM rfl).2
   have dK:ln<=j:=by simpa using bP
   clear cM bP
   have HL:Hid (Calls Tryz.prog 56 #[.pointer (some ⟨R,0,none⟩)] wr fun e w'=>e=.returned (.int .u8 ((lookB s j).toNat:Int))/\∃ m',w'=wr.drewN m'):=qbL wr R s j false HR.out
   by_cases aD:lookB s j=125
   ·have hc:((lookB s j).toNat:Nat)=125:=by rw[aD];rfl
    rw[hc]at HL
    have HZ:Hid (∀ q,_):=aG.out (fun _=>aD)
    clear aG aD hc
    go_wp2_with (go_at_call 56;refine HL.out.mono ?_;rintro e w' ⟨rfl,nq,rfl⟩)
    refine bodyPost_ret (v:=.agg #[.int .i64 5,.slice na ln nc,.slice ka ln kc]) (by simp[results,Tryz.results41,go_sem,r0,r1,r2]) rfl ?_
    exact HZ.out nq
   ·have cX:((((lookB s j).toNat:Nat):Int)==125)=false:=by
     rw[beq_eq_false_iff_ne]
     intro e;apply aD;apply UInt8.toNat_inj.1
     have cY:(125:UInt8).toNat=125:=rfl
     omega
    have cZ:((((lookB s j).toNat:Nat):Int) != 125)=true:=by simp[bne,cX]
    have HE:Hid (¬ lookB s j=125):=aD
    have bF:(((lookB s j).toNat:Nat):Int)<=255:=by have:=(lookB s j).toNat_lt;omega
    clear aD aG r0 r1 r2 f0 f1 f2
    generalize ((lookB s j).toNat:Nat)=c at *
    rcases Nat.eq_zero_or_pos ln with h0|h0
    case' inl=>
     have hd:(0<ln)=False:=eq_false (by omega)
     have dA:((0:Int)<(ln:Int))=False:=eq_false (by omega)
     have bG:Hid (qwW s ln j j false):=.inl ⟨h0,rfl,rfl⟩
     clear h0
     go_wp2_with (go_at_call 56;refine HL.out.mono ?_;rintro e w' ⟨rfl,nq,rfl⟩)
     have bR:Near R wr (wr.drewN nq):=(Near.refl R wr).drewN nq
     have aI:RdS (wr.drewN nq) R s j false:=HR.out.drewN nq
     generalize wr.drewN nq=w1 at *
     obtain⟨i1,bad1,aI,bG,aN⟩:∃ (i1:Nat) (bad1:Bool),RdS w1 R s i1 bad1/\Hid (qwW s ln j i1 bad1)/\i1<=s.size:=⟨j,false,aI,bG,bQ⟩
     clear hd dA
    case' inr=>
     have hd:(0:Int)<(ln:Int):=by omega
     go_wp2_with (go_at_call 56;refine HL.out.mono ?_;rintro e w' ⟨rfl,nq,rfl⟩)
     refine (qcK _ R s ⟨#[44]⟩ j false (HR.out.drewN nq) hs (by decide) bQ).mono ?_
     rintro e w1 ⟨rfl,cN,aM⟩
     obtain⟨i1,bad1,aI,bG,aN⟩:∃ (i1:Nat) (bad1:Bool),RdS w1 R s i1 bad1/\Hid (qwW s ln j i1 bad1)/\i1<=s.size:=by
      rcases aM with ⟨he,hz,h⟩|⟨he,h⟩
      ·exact⟨j+1,false,h,.inr ⟨by omega,.inl ⟨he,hz,rfl,rfl⟩⟩,hz⟩
      ·exact⟨j,true,h,.inr ⟨by omega,.inr ⟨he,rfl,rfl⟩⟩,bQ⟩
     have bR:Near R wr w1:=((Near.refl R wr).drewN nq).trans cN
     clear aM cN hd h0
    all_goals
     have aP:Hid (ManyK R w3.heap.size m w3 w1 5 ns ks (.slice na ln nc) (.slice ka ln kc)):=HM.out.keep (by omega) bR
     have bS:=aP.out.lt
     have x1w:w1.cell? ⟨w3.heap.size,1,none⟩=some (.slice na ln nc):=by simp[World.cell?,aP.out.box]
     obtain⟨x,bY⟩:∃ x,Hid (bs ((s.data.toList.drop i1).takeWhile qaV)=x):=⟨_,rfl⟩
     obtain⟨j1,HJ⟩:∃ j1,Hid (i1+((s.data.toList.drop i1).takeWhile qaV).length=j1):=⟨_,rfl⟩
     have cE:Hid (Calls Tryz.prog 58 #[.pointer (some ⟨R,0,none⟩)] w1.drew fun e w'=>e=.returned (.string x)/\Near R w1.drew w' /\ RdS w' R s (j1:Int) bad1):=
      (qwA w1.drew R s i1 bad1 (aI.drewN 1) hs aN).mono fun e w' ⟨h1,h2,h3,_⟩=>⟨by rw[h1,bY.out],h2,by rw[HJ.out]at h3;exact h3⟩
     have HT:Hid ((bs ((s.data.toList.drop i1).takeWhile qaV)).size<=10000/\i1+((s.data.toList.drop i1).takeWhile qaV).length<=s.size):=by
      have h1:((s.data.toList.drop i1).takeWhile qaV).length<=(s.data.toList.drop i1).length:=(List.takeWhile_prefix _).length_le
      rw[List.length_drop]at h1
      have h2:s.data.toList.length=s.size:=by simp
      exact⟨by rw[qaJ];omega,by omega⟩
     rw[bY.out,HJ.out]at HT
     have cF:=HT.out.2
     have bH:Hid (w1.ownsRow (w3.heap.size+1) 9 1 (.slice na ln nc) ln (ns.map .string)):=by
      have:=aP.out.names
      rw[aJ.out.1]at this;exact this
     obtain⟨is0,aY,aZ,bA,bB⟩:=info_parts Tryz.info_strR
     have bI:Hid (_/\_/\_/\_):=⟨aY,aZ,bA,bB⟩
     clear aY aZ bA bB aI x0 x1 x2 d1 d2 df HL HM bR
     go_upto_region 27 with fail
     go_cut [71] from 62 to 95 (fun _ wx=>∃ g cap,ManyK R w3.heap.size m w3 wx 5 (ns++[x]) ks (.slice (some ⟨g,0,none⟩) (ln+1) cap) (.slice ka ln kc)/\RdS wx R s (j1:Int) bad1)
     case first=>
      go_region_law (first
       | (refine step_append_lies _ (by rfl) (.tmp 79) (.tmp 82) 22 (by rfl) (w3.heap.size+1) 9 is0 _ 1 16 Tryz.underlying22 bI.out.1 bI.out.2.1 bI.out.2.2.1 bI.out.2.2.2 rfl (by decide) (.slice na ln nc) ln (ns.map .string) (by rfl) (cG _) ⟨w2.heap.size,0,none⟩ 1 1 [.string x] (by rfl) rfl (World.news_of_block (heap_alloc_new w2 _)) (by simp[Value.oneCell']) (by decide) (by unfold maxLen;omega) (by omega) (by simp;omega) (w2.heap.size+1) (by simp) ?_;intro g cap w3' bC aB cO dO;have bT:=(qoX (W:=w1.drew) bH.out bS (by omega) aK aB).trans aP.out.box;have x1'':w3'.cell? ⟨w3.heap.size,1,none⟩=some (.slice na ln nc):=(by simp[World.cell?,bT]);have xf'':w3'.frozen? ⟨w3.heap.size,1,none⟩=false:=(by simp[World.frozen?,bT]))
       | (go_simp;go_at_call 58;refine cE.out.mono ?_;rintro e w2 ⟨rfl,aK,aX⟩;have bU:w1.heap.size<=w2.heap.size:=aK.size;have cG:=fun o=>qxA (R:=R) (X:=w3.heap.size) (W:=w1.drew) bH.out (by omega) aK o;have x1':w2.cell? ⟨w3.heap.size,1,none⟩=some (.slice na ln nc):=(World.cell?_of_block (aK.block w3.heap.size (by simpa using bS) (by omega))).trans x1w;have x1a:(w2.alloc (.cells #[.string x] 9)).cell? ⟨w3.heap.size,1,none⟩=some (.slice na ln nc):=(World.cell?_of_block (Below.heap_alloc _ _ _ (by show w3.heap.size<_;omega))).trans x1'))
      all_goals
       have aQ:=ManyK.name (W:=w2) (Wa:=w2.alloc (.cells #[.string x] 9)) (one:=.cells #[.string x] 9) (aP.out.keep (by omega) (((Near.refl R w1).drewN 1).trans aK)) (Nat.le_refl _) rfl ⟨rfl,rfl,rfl⟩ HT.out.1 (by rw[aJ.out.1];exact bC) aB cO
       rw[aJ.out.1]at aQ
       have bJ:Hid (ManyK R w3.heap.size m w3 (w3'.setCell ⟨w3.heap.size,1,none⟩ (.slice (some ⟨g,0,none⟩) (ln+1) cap)) 5 (ns++[x]) ks (.slice (some ⟨g,0,none⟩) (ln+1) cap) (.slice ka ln kc)):=aQ
       have bK:Hid (RdS (w3'.setCell ⟨w3.heap.size,1,none⟩ (.slice (some ⟨g,0,none⟩) (ln+1) cap)) R s (j1:Int) bad1):=qsZ (X:=w3.heap.size) (q:=1) (W:=w1.drew) aX bH.out (by omega) aB
       clear aQ bC aB cO aK aX cG x1' x1a x1'' xf'' bT
       go_wp2_with fail
       go_meet
       exact⟨_,_,bJ.out,bK.out⟩
     case rest=>
      obtain⟨g,cap,aQ,cP⟩:=hcut
      have bJ:Hid (ManyK R w3.heap.size m w3 wc 5 (ns++[x]) ks (.slice (some ⟨g,0,none⟩) (ln+1) cap) (.slice ka ln kc)):=aQ
      have bK:Hid (RdS wc R s (j1:Int) bad1):=cP
      clear aQ cP x1w cE aP bH bS
      go_wp2_with fail
      refine (qcK wc R s ⟨#[58]⟩ j1 bad1 bK.out hs (by decide) cF).mono ?_
      rintro e w5 ⟨rfl,cQ,aM⟩
      obtain⟨i3,bad3,aS,dD,bZ,bD⟩:∃ (i3:Nat) (bad3:Bool),RdS w5 R s i3 bad3/\Hid (xiA s j1 i3 bad1 bad3)/\(bad3=false->i3<=s.size)/\i3<=20000:=by
       rcases aM with ⟨he,hz,h⟩|⟨he,h⟩
       ·exact⟨j1+1,bad1,h,.inl ⟨he,hz,rfl,rfl⟩,fun _=>hz,by have:(⟨#[58]⟩:ByteArray).size=1:=rfl;omega⟩
       ·exact⟨j1,true,h,.inr ⟨he,rfl,rfl⟩,(fun h=>by cases h),by omega⟩
      have bV:=bJ.out.keep (by omega) cQ
      have bL:Hid (ManyK R w3.heap.size m w3 w5 5 (ns++[x]) ks (.slice (some ⟨g,0,none⟩) (ln+1) cap) (.slice ka ln kc)):=bV
      obtain⟨xs,cA,cR⟩:=bV.kids
      have dB:Hid (∀ q (h:q<ks.length),_):=cR
      have bM:Hid (w5.ownsRow (w3.heap.size+1) 55 3 (.slice ka ln kc) ln xs):=by
       rw[aJ.out.2]at cA;exact cA
      have cH:=bL.out.lt
      have x2w:w5.cell? ⟨w3.heap.size,2,none⟩=some (.slice ka ln kc):=by simp[World.cell?,bL.out.box]
      have dC:Hid (Calls Tryz.prog 41 #[.pointer (some ⟨R,0,none⟩),.int .i64 (7 - (n:Int))] w5.drew (qbD m n w5.drew R s i3 bad3)):=HN.out m R s i3 bad3 _ hm (aS.drewN 1) hs bZ bD
      obtain⟨ik0,aY,aZ,bA,bB⟩:=info_parts Tryz.info_kindR
      have bN:Hid (_/\_/\_/\_):=⟨aY,aZ,bA,bB⟩
      clear aY aZ bA bB cA cR bV aM aS cQ bJ bK
      go_wp2_with fail
      go_region_law (first
       | (refine step_append_lies _ (by rfl) (.tmp 88) (.tmp 93) 53 (by rfl) (w3.heap.size+1) 55 ik0 _ 3 56 Tryz.underlying53 bN.out.1 bN.out.2.1 bN.out.2.2.1 bN.out.2.2.2 rfl (by decide) (.slice ka ln kc) ln xs (by rfl) (aW _) ⟨v2.heap.size,0,none⟩ 1 1 [.int .i64 y0,.slice ya yl yc,.slice za zl zc] (by rfl) rfl (World.news_of_block (heap_alloc_new v2 _)) (by simp[Value.oneCell']) (by decide) (by unfold maxLen;omega) (by omega) (by simp;omega) (v2.heap.size+1) (by simp) ?_;intro g2 cap2 v3 aO aA bE dE;have bW:=(qoX (W:=w5.drew) bM.out cH (by omega) aE aA).trans bL.out.box;have x2'':v3.cell? ⟨w3.heap.size,2,none⟩=some (.slice ka ln kc):=(by simp[World.cell?,bW]);have xg'':v3.frozen? ⟨w3.heap.size,2,none⟩=false:=(by simp[World.frozen?,bW]))
       | (go_simp;go_at_call 41;refine dC.out.mono ?_;rintro e v2 ⟨aE,t2,c0',c1',c2',i2,bad2,rfl,cB,cS,cT⟩;obtain⟨y0,ya,yl,yc,za,zl,zc,rfl,rfl,rfl⟩:=cB.shape;have bU:w5.heap.size<=v2.heap.size:=aE.size;have aW:=fun o=>qxA (R:=R) (X:=w3.heap.size) (W:=w5.drew) bM.out (by omega) aE o;have x2':v2.cell? ⟨w3.heap.size,2,none⟩=some (.slice ka ln kc):=(World.cell?_of_block (aE.block w3.heap.size (by simpa using cH) (by omega))).trans x2w;have x2a:(v2.alloc (.cells #[.int .i64 y0,.slice ya yl yc,.slice za zl zc] 55)).cell? ⟨w3.heap.size,2,none⟩=some (.slice ka ln kc):=(World.cell?_of_block (Below.heap_alloc _ _ _ (by show w3.heap.size<_;omega))).trans x2'))
      all_goals
       have hF:=ManyK.kid (W:=w5.drew) (W1:=v2) (Wa:=v2.alloc (.cells #[.int .i64 y0,.slice ya yl yc,.slice za zl zc] 55)) (one:=.cells #[.int .i64 y0,.slice ya yl yc,.slice za zl zc] 55) (g:=g2) (cap:=cap2) (xs:=xs)
        (bL.out.keep (by omega) ((Near.refl R w5).drewN 1)) (by omega) (Nat.le_refl _) aE cB rfl ⟨rfl,rfl,rfl⟩ (by rw[aJ.out.2];exact bM.out)
        (fun q hq=>by obtain⟨a0,a1,a2,hd,dF⟩:=dB.out q hq;exact⟨a0,a1,a2,hd,KindIn.keep (w:=w5) (w':=w5.drew) (fun _ _=>rfl) (fun _ h=>h) dF⟩) (by rw[aJ.out.2];exact aO) aA bE
       rw[aJ.out.2]at hF
       have HF:Hid (ManyK R w3.heap.size m w3 (v3.setCell ⟨w3.heap.size,2,none⟩ (.slice (some ⟨g2,0,none⟩) (ln+1) cap2)) 5 (ns++[x]) (ks++[t2]) (.slice (some ⟨g,0,none⟩) (ln+1) cap) (.slice (some ⟨g2,0,none⟩) (ln+1) cap2)):=hF
       have cI:Hid (RdS (v3.setCell ⟨w3.heap.size,2,none⟩ (.slice (some ⟨g2,0,none⟩) (ln+1) cap2)) R s i2 bad2):=qsZ (X:=w3.heap.size) (q:=2) (u:=.slice (some ⟨g2,0,none⟩) (ln+1) cap2) (W:=w5.drew) cS bM.out (by omega) aA
       have HS:=qzA HI.out HE.out (by rw[aJ.out.2];exact bG.out) (by rw[HJ.out];exact dD.out) cT (by rw[HJ.out];exact cF)
       rw[bY.out]at HS
       have cJ:Hid _:=HS
       clear hF HS aO aA bE cB cS cT aE aW x2' x2a x2'' xg'' bW
       go_wp2_with fail
       go_roundw
       case rel=>exact⟨ns++[x],ks++[t2],i2,ln+1,bad2,some ⟨g,0,none⟩,cap,some ⟨g2,0,none⟩,cap2,by simp[aJ.out.1],by simp[aJ.out.2],HF.out,cI.out,cJ.out.1⟩
       case measure=>rw[RdS.leftRK cI.out,RdS.leftRK HR.out];simpa using cJ.out.2
end Go.Proofs.YtelogmjfekhmpaaGreatDoor
