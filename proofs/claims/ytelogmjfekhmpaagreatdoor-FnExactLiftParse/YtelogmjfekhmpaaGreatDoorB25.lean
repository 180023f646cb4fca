import Derived.Test.YtelogmjfekhmpaaGreatDoorProg
import Derived.Deep.RegionHeld
import Derived.RegionDies
import Derived.BigQuiet
import Derived.Test.YtelogmjfekhmpaaGreatDoorB24
import Derived.Deep.RegionLaw
import Derived.Deep.Cut
import Derived.Deep.CutRange
import Derived.Test.YtelogmjfekhmpaaGreatDoorKSpecText
import Derived.Test.YtelogmjfekhmpaaGreatDoorB20
import Derived.Test.YtelogmjfekhmpaaGreatDoorB1
import Derived.Test.YtelogmjfekhmpaaGreatDoorB22
import Derived.Test.YtelogmjfekhmpaaGreatDoorB16
import Derived.Test.YtelogmjfekhmpaaGreatDoorSL2
import Derived.Test.YtelogmjfekhmpaaGreatDoorB7
namespace Go.Proofs.YtelogmjfekhmpaaGreatDoor
open Go.RowKit Go.Proofs.Tryz
theorem tk {P:Program} {md:Region.Mode} {ops:Array Oper} {Q:Exit->Act->World->Prop} {S:World->Prop} {fuel:Nat} {listed:Array Bool} {a:Act} {w:World} (i:Nat) {oi:Oper} {v:Value} (h:wpAnyH P md ops Q S fuel (listed.setIfInBounds i true) (a.put oi.dst v) w)
  (hi:ops[i]?=some oi:=by rfl) (hs:Region.noSelect ops=true:=by kernel_rfl) (hf:Region.free md ops listed i=true:=by kernel_rfl) (hr:(Region.ready md ops listed).contains i=true:=by kernel_rfl) (hw:Region.wanted oi (yielded ops a.tmps)=true:=by kernel_rfl) (hS:S w:=by assumption)
  (hy:∀w',S w'->Sem.run P (execOp a.eval oi) w'=.ok (.value v) w':=by (intro wq hSw;(try dsimp only at hSw);go_simp;first|done|with_reducible rfl)) (hQ:∀c a w,Q (.panic c) (a.put oi.dst v) w->Q (.panic c) a w:=by exact fun _ _ _ h=>h) :
  wpAnyH P md ops Q S (fuel+1) listed a w:=wpAnyH_take hi hs hf hr hQ (.inl ⟨hw,hy⟩) hS h
theorem ts {P:Program} {md:Region.Mode} {ops:Array Oper} {Q:Exit->Act->World->Prop} {S:World->Prop} {fuel:Nat} {listed:Array Bool} {a:Act} {w:World} (i:Nat) {oi:Oper} (h:wpAnyH P md ops Q S fuel (listed.setIfInBounds i true) (a.put oi.dst undef) w)
  (hi:ops[i]?=some oi:=by rfl) (hs:Region.noSelect ops=true:=by kernel_rfl) (hf:Region.free md ops listed i=true:=by kernel_rfl) (hr:(Region.ready md ops listed).contains i=true:=by kernel_rfl) (hw:Region.wanted oi (yielded ops a.tmps)=false:=by kernel_rfl) (hS:S w:=by assumption) (hQ:∀c a w,Q (.panic c) (a.put oi.dst undef) w->Q (.panic c) a w:=by exact fun _ _ _ h=>h) :
  wpAnyH P md ops Q S (fuel+1) listed a w:=wpAnyH_take hi hs hf hr hQ (.inr ⟨hw,rfl⟩) hS h
set_option maxRecDepth 100000
set_option maxHeartbeats 16000000
theorem Tryz.info_strR:(prog.info? 9).map (fun i=>(i.zero,i.size,i.bytes))=some (some (.string ⟨#[]⟩),1,16):=by kernel_rfl
theorem Tryz.info_kindR:(prog.info? 55).map (fun i=>(i.zero,i.size,i.bytes))=some (some (.agg #[.int .i64 0,.slice none 0 0,.slice none 0 0]),3,56):=by kernel_rfl
theorem xeE {m n R i i':Nat} {s:ByteArray} {bad':Bool} {w w3 wr:World} {ns:List ByteArray} {ks:List (K m)} {nv kv:Value} (hM:ManyK R w3.heap.size m w3 wr 5 ns ks nv kv) (hn3:Near R w w3) (hR:R<w.heap.size) (hz3:w.heap.size+1<=w3.heap.size) (hr:RdS wr R s i' bad') (hI:qfR m n s i ns ks i' bad') (hs:s.size<=10000) (hn6:n<=6)
  (h1n:¬lookB s i=110) (h2n:¬lookB s i=116) (h3n:¬lookB s i=102) (h4n:¬lookB s i=63) (h5n:¬lookB s i=91) (hend:bad'=false->lookB s i'=125) :
  qbC (m+1) (n+1) w R s i false (.returned (.agg #[.int .i64 5,nv,kv])) (put3 (wr.setCell ⟨R,1,none⟩ (.int .i64 ((i':Int)+1))) w.heap.size 0 (.int .i64 5) nv kv):=by
 have a:=xgZ h1n h2n h3n h4n h5n hI hend
 obtain⟨f,g,h,e,j,-⟩:=hI
 have c:=hM.near.size
 have d:ks.length<=20000:=by cases bad'<;>simp at e<;>omega
 refine qgI ((hn3.trans hM.near).trans (Near.set R 1 _ _)) hR (by have:=hr.set1 ((i':Int)+1);simpa using this) ?_ a
 exact qzB hM (fun b hb=>Below.heap_setCell _ _ _ _ (by show b≠R;omega)) (by simp) (by omega) d (by omega)
theorem xjO (n:Nat) (hn:qfK n) (m R:Nat) (s:ByteArray) (i:Nat) (w:World) (hm:n+1<=m) (hn6:n<=6) (h:RdS w R s i false) (hs:s.size<=10000) (hi:i<=s.size)
  (h1n:¬lookB s i=110) (h2n:¬lookB s i=116) (h3n:¬lookB s i=102) (h4n:¬lookB s i=63) (h5n:¬lookB s i=91) :
  Calls prog 41 #[.pointer (some ⟨R,0,none⟩),.int .i64 (7-((n+1:Nat):Int))] w (qbC (m+1) (n+1) w R s i false):=by
 have hR:=h.lt
 obtain⟨W1,bU,dD,c2,HL⟩:=qbV (.cells #[.int .i64 0,.slice none 0 0,.slice none 0 0] 55) h rfl
 have cG:¬(6:Int)<7-((n+1:Nat):Int):=by omega
 have l:∀c:UInt8,¬lookB s i=c->((((lookB s i).toNat:Nat):Int)==(c.toNat:Int))=false:=fun c hc=>by
  rw[beq_eq_false_iff_ne]
  intro e
  apply hc
  apply UInt8.toNat_inj.1
  omega
 have e1:((((lookB s i).toNat:Nat):Int)==110)=false:=l 110 h1n
 have e2:((((lookB s i).toNat:Nat):Int)==116)=false:=l 116 h2n
 have e3:((((lookB s i).toNat:Nat):Int)==102)=false:=l 102 h3n
 have e4:((((lookB s i).toNat:Nat):Int)==63)=false:=l 63 h4n
 have e5:((((lookB s i).toNat:Nat):Int)==91)=false:=l 91 h5n
 have S:Hid (¬lookB s i=110/\¬lookB s i=116/\¬lookB s i=102/\¬lookB s i=63/\¬lookB s i=91):=⟨h1n,h2n,h3n,h4n,h5n⟩
 have cX:IntKind.i64.wrap (7-((n+1:Nat):Int)+1)=7-(n:Int):=by rw[IntKind.wrap_i64];omega
 have HN:Hid (qfK n):=hn
 clear h hn l h1n h2n h3n h4n h5n
 generalize hdp:7-((n+1:Nat):Int)=dp at *
 clear hdp
 generalize ((lookB s i).toNat:Nat)=cc at *
 go_enter func41,ntmps41
 go_wp2_with fail
 rw[<- bU]
 clear bU c2
 refine HL.out.mono ?_
 rintro e w2 ⟨rfl,y,U,dE,M⟩
 have HE:Hid (Calls prog 57 #[.pointer (some ⟨R,0,none⟩),.string ⟨#[123]⟩] w2 _):=qcI w2 R s ⟨#[123]⟩ i false U hs (by decide) hi
 clear HL U
 go_wp2_with fail
 refine HE.out.mono ?_
 rintro e w3 ⟨rfl,aL,E⟩
 have cY:=aL.size
 have L:=(aL.block w.heap.size (by omega) (by omega)).trans M
 have aO:=y.trans aL
 obtain⟨i0,F,Q,bV⟩:∃(i0:Nat)(F:Bool),RdS w3 R s i0 F/\qfR m n s i [] [] i0 F:=by
  rcases E with ⟨q1,q2,q3⟩|⟨q1,q3⟩
  ·exact⟨i+1,false,q3,qoW hi (.inl ⟨q1,q2,rfl,rfl⟩)⟩
  ·exact⟨i,true,q3,qoW hi (.inr ⟨q1,rfl,rfl⟩)⟩
 have aP:Hid (Near R w w3/\w3.heap[w.heap.size]?=some (.cells #[.int .i64 0,.slice none 0 0,.slice none 0 0] 55 (0,0))):=⟨aO,L⟩
 have bF:RdS (w3.alloc (.cells #[.int .i64 5,.slice none 0 0,.slice none 0 0] 55)) R s i0 F:=(Below.heap_alloc _ _ _ Q.lt).trans Q
 clear HE E y aL M L aO Q e1 e2 e3 e4 e5
 go_wp2_with fail
 go_loopw [71] (fun _ wr=>∃(G:List ByteArray)(H:List (K m))(j a:Nat)(d:Bool)(na:Option Addr)(I:Nat)(z:Option Addr)(A:Nat),G.length=a/\H.length=a/\ManyK R w3.heap.size m w3 wr 5 G H (.slice na a I) (.slice z a A)/\RdS wr R s j d/\qfR m n s i G H j d) (fun _ wr=>leftRK wr R s.size)
 case atStart=>exact⟨[],[],i0,0,F,none,0,none,0,rfl,rfl,ManyK.start,bF,bV⟩
 case round=>
  obtain⟨G,H,j,a,d,na,I,z,A,bW,bA,hM,hr,hI⟩:=hrel
  have hX:=hM.lt
  have cZ:=hM.near.size
  have x0:wr.cell? ⟨w3.heap.size,0,none⟩=some (.int .i64 5):=by simp[World.cell?,hM.box]
  have x1:wr.cell? ⟨w3.heap.size,1,none⟩=some (.slice na a I):=by simp[World.cell?,hM.box]
  have x2:wr.cell? ⟨w3.heap.size,2,none⟩=some (.slice z a A):=by simp[World.cell?,hM.box]
  have d1:=hr.cell1
  have d2:=hr.cell2
  have df:=hr.free 1
  have cH:=hI
  obtain⟨dF,bX,dG,aM,-,-⟩:=cH
  rw[bA]at aM
  have k:Hid (G.length=a/\H.length=a):=⟨bW,bA⟩
  have HM:Hid (ManyK R w3.heap.size m w3 wr 5 G H (.slice na a I) (.slice z a A)):=hM
  have HR:Hid (RdS wr R s j d):=hr
  have HI:Hid (qfR m n s i G H j d):=hI
  have dA:IntKind.i64.wrap ((j:Int)+1)=(j:Int)+1:=by rw[IntKind.wrap_i64];omega
  have cT:a<=10010:=by cases d<;>simp at aM<;>omega
  obtain⟨⟨r0,r1,r2⟩,f0,f1,f2⟩:=qbX ((hM.near.block w.heap.size (by omega) (by omega)).trans aP.out.2)
  have D:Hid ((d=false->lookB s j=125)->∀q,qbC (m+1) (n+1) w R s i false (.returned (.agg #[.int .i64 5,.slice na a I,.slice z a A])) (put3 ((wr.drewN q).setCell ⟨R,1,none⟩ (.int .i64 ((j:Int)+1))) w.heap.size 0 (.int .i64 5) (.slice na a I) (.slice z a A))):=fun he q=>
   xeE (HM.out.keep (by omega) ((Near.refl R wr).drewN q)) aP.out.1 hR (by omega) (HR.out.drewN q) HI.out hs hn6 S.out.1 S.out.2.1 S.out.2.2.1 S.out.2.2.2.1 S.out.2.2.2.2 he
  clear hM hr hI bW bA bF bV
  cases d with
  | true=>
   have HZ:Hid _:=D.out (fun h=>by cases h) 0
   clear D
   go_wp2_with fail
   refine bodyPost_ret (v:=.agg #[.int .i64 5,.slice na a I,.slice z a A]) (by simp[results,results41,go_sem,r0,r1,r2]) rfl ?_
   exact HZ.out
  | false=>
   have aU:j<=s.size:=(bX rfl).2
   have dB:a<=j:=by simpa using aM
   clear bX aM
   have HL:Hid (Calls prog 56 #[.pointer (some ⟨R,0,none⟩)] wr fun e w'=>e=.returned (.int .u8 ((lookB s j).toNat:Int))/\∃m',w'=wr.drewN m'):=qeS wr R s j false HR.out
   by_cases hend:lookB s j=125
   ·have hc:((lookB s j).toNat:Nat)=125:=by rw[hend];rfl
    rw[hc]at HL
    have HZ:Hid (∀q,_):=D.out (fun _=>hend)
    clear D hend hc
    go_wp2_with (go_at_call 56;refine HL.out.mono ?_;rintro e w' ⟨rfl,nq,rfl⟩)
    refine bodyPost_ret (v:=.agg #[.int .i64 5,.slice na a I,.slice z a A]) (by simp[results,results41,go_sem,r0,r1,r2]) rfl ?_
    exact HZ.out nq
   ·have cI:((((lookB s j).toNat:Nat):Int)==125)=false:=by
     rw[beq_eq_false_iff_ne]
     intro e;apply hend;apply UInt8.toNat_inj.1
     have cU:(125:UInt8).toNat=125:=rfl
     omega
    have cV:((((lookB s j).toNat:Nat):Int) != 125)=true:=by simp[bne,cI]
    have HE:Hid (¬lookB s j=125):=hend
    have dC:(((lookB s j).toNat:Nat):Int)<=255:=by have:=(lookB s j).toNat_lt;omega
    clear hend D r0 r1 r2 f0 f1 f2
    generalize ((lookB s j).toNat:Nat)=c at *
    rcases Nat.eq_zero_or_pos a with h0|h0
    case' inl=>
     have hd:(0<a)=False:=eq_false (by omega)
     have cJ:((0:Int)<(a:Int))=False:=eq_false (by omega)
     have aD:Hid (qwW s a j j false):=.inl ⟨h0,rfl,rfl⟩
     clear h0
     go_wp2_with (go_at_call 56;refine HL.out.mono ?_;rintro e w' ⟨rfl,nq,rfl⟩)
     have aV:Near R wr (wr.drewN nq):=(Near.refl R wr).drewN nq
     have T:RdS (wr.drewN nq) R s j false:=HR.out.drewN nq
     generalize wr.drewN nq=J at *
     obtain⟨C,b,T,aD,V⟩:∃(C:Nat)(b:Bool),RdS J R s C b/\Hid (qwW s a j C b)/\C<=s.size:=⟨j,false,T,aD,aU⟩
     clear hd cJ
    case' inr=>
     have hd:(0:Int)<(a:Int):=by omega
     go_wp2_with (go_at_call 56;refine HL.out.mono ?_;rintro e w' ⟨rfl,nq,rfl⟩)
     refine (qcI _ R s ⟨#[44]⟩ j false (HR.out.drewN nq) hs (by decide) aU).mono ?_
     rintro e J ⟨rfl,bY,E⟩
     obtain⟨C,b,T,aD,V⟩:∃(C:Nat)(b:Bool),RdS J R s C b/\Hid (qwW s a j C b)/\C<=s.size:=by
      rcases E with ⟨he,hz,h⟩|⟨he,h⟩
      ·exact⟨j+1,false,h,.inr ⟨by omega,.inl ⟨he,hz,rfl,rfl⟩⟩,hz⟩
      ·exact⟨j,true,h,.inr ⟨by omega,.inr ⟨he,rfl,rfl⟩⟩,aU⟩
     have aV:Near R wr J:=((Near.refl R wr).drewN nq).trans bY
     clear E bY hd h0
    all_goals
     have O:Hid (ManyK R w3.heap.size m w3 J 5 G H (.slice na a I) (.slice z a A)):=HM.out.keep (by omega) aV
     have aW:=O.out.lt
     have bG:J.cell? ⟨w3.heap.size,1,none⟩=some (.slice na a I):=by simp[World.cell?,O.out.box]
     obtain⟨x,bB⟩:∃x,Hid (bs ((s.data.toList.drop C).takeWhile qaT)=x):=⟨_,rfl⟩
     obtain⟨j1,HJ⟩:∃j1,Hid (C+((s.data.toList.drop C).takeWhile qaT).length=j1):=⟨_,rfl⟩
     have bH:Hid (Calls prog 58 #[.pointer (some ⟨R,0,none⟩)] J.drew fun e w'=>e=.returned (.string x)/\Near R J.drew w' /\ RdS w' R s (j1:Int) b):=
      (qwA J.drew R s C b (T.drewN 1) hs V).mono fun e w' ⟨h1,h2,h3,_⟩=>⟨by rw[h1,bB.out],h2,by rw[HJ.out]at h3;exact h3⟩
     have HT:Hid ((bs ((s.data.toList.drop C).takeWhile qaT)).size<=10000/\C+((s.data.toList.drop C).takeWhile qaT).length<=s.size):=by
      have h1:((s.data.toList.drop C).takeWhile qaT).length<=(s.data.toList.drop C).length:=(List.takeWhile_prefix _).length_le
      rw[List.length_drop]at h1
      have h2:s.data.toList.length=s.size:=by simp
      exact⟨by rw[qaL];omega,by omega⟩
     rw[bB.out,HJ.out]at HT
     have bI:=HT.out.2
     have aE:Hid (J.ownsRow (w3.heap.size+1) 9 1 (.slice na a I) a (G.map .string)):=by
      have:=O.out.names
      rw[k.out.1]at this;exact this
     obtain⟨cP,Y,Z,aA,aB⟩:=info_parts Tryz.info_strR
     have aF:Hid (_/\_/\_/\_):=⟨Y,Z,aA,aB⟩
     clear Y Z aA aB T x0 x1 x2 d1 d2 df HL HM aV
     go_upto_region 27 with fail
     go_cut [71] from 62 to 95 (fun _ wx=>∃g cap,ManyK R w3.heap.size m w3 wx 5 (G++[x]) H (.slice (some ⟨g,0,none⟩) (a+1) cap) (.slice z a A)/\RdS wx R s (j1:Int) b)
     case first=>
      go_region_law (first
       | (refine step_append_lies _ (by rfl) (.tmp 79) (.tmp 82) 22 (by rfl) (w3.heap.size+1) 9 cP _ 1 16 underlying22 aF.out.1 aF.out.2.1 aF.out.2.2.1 aF.out.2.2.2 rfl (by decide) (.slice na a I) a (G.map .string) (by rfl) (bM _) ⟨w2.heap.size,0,none⟩ 1 1 [.string x] (by rfl) rfl (World.news_of_block (heap_alloc_new w2 _)) (by simp[Value.oneCell']) (by decide) (by unfold maxLen;omega) (by omega) (by simp;omega) (w2.heap.size+1) (by simp) ?_;intro g cap aN aR B bZ dH;have aX:=(qoX (W:=J.drew) aE.out aW (by omega) y B).trans O.out.box;have bJ:aN.cell? ⟨w3.heap.size,1,none⟩=some (.slice na a I):=(by simp[World.cell?,aX]);have bK:aN.frozen? ⟨w3.heap.size,1,none⟩=false:=(by simp[World.frozen?,aX]))
       | (go_simp;go_at_call 58;refine bH.out.mono ?_;rintro e w2 ⟨rfl,y,U⟩;have bL:J.heap.size<=w2.heap.size:=y.size;have bM:=fun o=>qxA (R:=R) (X:=w3.heap.size) (W:=J.drew) aE.out (by omega) y o;have bN:w2.cell? ⟨w3.heap.size,1,none⟩=some (.slice na a I):=(World.cell?_of_block (y.block w3.heap.size (by simpa using aW) (by omega))).trans bG;have cK:(w2.alloc (.cells #[.string x] 9)).cell? ⟨w3.heap.size,1,none⟩=some (.slice na a I):=(World.cell?_of_block (Below.heap_alloc _ _ _ (by show w3.heap.size<_;omega))).trans bN))
      all_goals
       have P:=ManyK.name (W:=w2) (Wa:=w2.alloc (.cells #[.string x] 9)) (one:=.cells #[.string x] 9) (O.out.keep (by omega) (((Near.refl R J).drewN 1).trans y)) (Nat.le_refl _) rfl ⟨rfl,rfl,rfl⟩ HT.out.1 (by rw[k.out.1];exact aR) B bZ
       rw[k.out.1]at P
       have aG:Hid (ManyK R w3.heap.size m w3 (aN.setCell ⟨w3.heap.size,1,none⟩ (.slice (some ⟨g,0,none⟩) (a+1) cap)) 5 (G++[x]) H (.slice (some ⟨g,0,none⟩) (a+1) cap) (.slice z a A)):=P
       have aH:Hid (RdS (aN.setCell ⟨w3.heap.size,1,none⟩ (.slice (some ⟨g,0,none⟩) (a+1) cap)) R s (j1:Int) b):=qsZ (X:=w3.heap.size) (q:=1) (W:=J.drew) U aE.out (by omega) B
       clear P aR B bZ y U bM bN cK bJ bK aX
       go_wp2_with fail
       go_meet
       exact⟨_,_,aG.out,aH.out⟩
     case rest=>
      obtain⟨g,cap,P,cA⟩:=hcut
      have aG:Hid (ManyK R w3.heap.size m w3 wc 5 (G++[x]) H (.slice (some ⟨g,0,none⟩) (a+1) cap) (.slice z a A)):=P
      have aH:Hid (RdS wc R s (j1:Int) b):=cA
      clear P cA bG bH O aE aW
      go_wp2_with fail
      refine (qcI wc R s ⟨#[58]⟩ j1 b aH.out hs (by decide) bI).mono ?_
      rintro e N ⟨rfl,cB,E⟩
      obtain⟨i3,p,Q,cQ,cC,bC⟩:∃(i3:Nat)(p:Bool),RdS N R s i3 p/\Hid (xiB s j1 i3 b p)/\(p=false->i3<=s.size)/\i3<=20000:=by
       rcases E with ⟨he,hz,h⟩|⟨he,h⟩
       ·exact⟨j1+1,b,h,.inl ⟨he,hz,rfl,rfl⟩,fun _=>hz,by have:(⟨#[58]⟩:ByteArray).size=1:=rfl;omega⟩
       ·exact⟨j1,true,h,.inr ⟨he,rfl,rfl⟩,(fun h=>by cases h),by omega⟩
      have aY:=aG.out.keep (by omega) cB
      have aI:Hid (ManyK R w3.heap.size m w3 N 5 (G++[x]) H (.slice (some ⟨g,0,none⟩) (a+1) cap) (.slice z a A)):=aY
      obtain⟨xs,bD,cD⟩:=aY.kids
      have cL:Hid (∀q (h:q<H.length),_):=cD
      have aJ:Hid (N.ownsRow (w3.heap.size+1) 55 3 (.slice z a A) a xs):=by
       rw[k.out.2]at bD;exact bD
      have bO:=aI.out.lt
      have cM:N.cell? ⟨w3.heap.size,2,none⟩=some (.slice z a A):=by simp[World.cell?,aI.out.box]
      have cN:Hid (Calls prog 41 #[.pointer (some ⟨R,0,none⟩),.int .i64 (7-(n:Int))] N.drew (qbC m n N.drew R s i3 p)):=HN.out m R s i3 p _ hm (Q.drewN 1) hs cC bC
      obtain⟨cR,Y,Z,aA,aB⟩:=info_parts Tryz.info_kindR
      have aK:Hid (_/\_/\_/\_):=⟨Y,Z,aA,aB⟩
      clear Y Z aA aB bD cD aY E Q cB aG aH
      go_wp2_with fail
      go_region_law (first
       | (refine step_append_lies _ (by rfl) (.tmp 88) (.tmp 93) 53 (by rfl) (w3.heap.size+1) 55 cR _ 3 56 underlying53 aK.out.1 aK.out.2.1 aK.out.2.2.1 aK.out.2.2.2 rfl (by decide) (.slice z a A) a xs (by rfl) (aQ _) ⟨v2.heap.size,0,none⟩ 1 1 [.int .i64 y0,.slice ya yl yc,.slice za zl zc] (by rfl) rfl (World.news_of_block (heap_alloc_new v2 _)) (by simp[Value.oneCell']) (by decide) (by unfold maxLen;omega) (by omega) (by simp;omega) (v2.heap.size+1) (by simp) ?_;intro g2 r v3 aC f aS cW;have aZ:=(qoX (W:=N.drew) aJ.out bO (by omega) t f).trans aI.out.box;have bP:v3.cell? ⟨w3.heap.size,2,none⟩=some (.slice z a A):=(by simp[World.cell?,aZ]);have bQ:v3.frozen? ⟨w3.heap.size,2,none⟩=false:=(by simp[World.frozen?,aZ]))
       | (go_simp;go_at_call 41;refine cN.out.mono ?_;rintro e v2 ⟨t,t2,dI,dJ,dK,i2,aT,rfl,bE,cE,cF⟩;obtain⟨y0,ya,yl,yc,za,zl,zc,rfl,rfl,rfl⟩:=bE.shape;have bL:N.heap.size<=v2.heap.size:=t.size;have aQ:=fun o=>qxA (R:=R) (X:=w3.heap.size) (W:=N.drew) aJ.out (by omega) t o;have bR:v2.cell? ⟨w3.heap.size,2,none⟩=some (.slice z a A):=(World.cell?_of_block (t.block w3.heap.size (by simpa using bO) (by omega))).trans cM;have cO:(v2.alloc (.cells #[.int .i64 y0,.slice ya yl yc,.slice za zl zc] 55)).cell? ⟨w3.heap.size,2,none⟩=some (.slice z a A):=(World.cell?_of_block (Below.heap_alloc _ _ _ (by show w3.heap.size<_;omega))).trans bR))
      all_goals
       have hF:=ManyK.kid (W:=N.drew) (W1:=v2) (Wa:=v2.alloc (.cells #[.int .i64 y0,.slice ya yl yc,.slice za zl zc] 55)) (one:=.cells #[.int .i64 y0,.slice ya yl yc,.slice za zl zc] 55) (g:=g2) (cap:=r) (xs:=xs)
        (aI.out.keep (by omega) ((Near.refl R N).drewN 1)) (by omega) (Nat.le_refl _) t bE rfl ⟨rfl,rfl,rfl⟩ (by rw[k.out.2];exact aJ.out)
        (fun q hq=>by obtain⟨a0,a1,a2,hd,cS⟩:=cL.out q hq;exact⟨a0,a1,a2,hd,KindIn.keep (w:=N) (w':=N.drew) (fun _ _=>rfl) (fun _ h=>h) cS⟩) (by rw[k.out.2];exact aC) f aS
       rw[k.out.2]at hF
       have HF:Hid (ManyK R w3.heap.size m w3 (v3.setCell ⟨w3.heap.size,2,none⟩ (.slice (some ⟨g2,0,none⟩) (a+1) r)) 5 (G++[x]) (H++[t2]) (.slice (some ⟨g,0,none⟩) (a+1) cap) (.slice (some ⟨g2,0,none⟩) (a+1) r)):=hF
       have bS:Hid (RdS (v3.setCell ⟨w3.heap.size,2,none⟩ (.slice (some ⟨g2,0,none⟩) (a+1) r)) R s i2 aT):=qsZ (X:=w3.heap.size) (q:=2) (u:=.slice (some ⟨g2,0,none⟩) (a+1) r) (W:=N.drew) cE aJ.out (by omega) f
       have HS:=qzA HI.out HE.out (by rw[k.out.2];exact aD.out) (by rw[HJ.out];exact cQ.out) cF (by rw[HJ.out];exact bI)
       rw[bB.out]at HS
       have bT:Hid _:=HS
       clear hF HS aC f aS bE cE cF t aQ bR cO bP bQ aZ
       go_wp2_with fail
       go_roundw
       case rel=>exact⟨G++[x],H++[t2],i2,a+1,aT,some ⟨g,0,none⟩,cap,some ⟨g2,0,none⟩,r,by simp[k.out.1],by simp[k.out.2],HF.out,bS.out,bT.out.1⟩
       case measure=>rw[RdS.leftRK bS.out,RdS.leftRK HR.out];simpa using bT.out.2
theorem qzF:∀n,n<=6->qfK n:=by
 intro n
 induction n with
 | zero=>
  intro _ m R s i bad w e h c b _
  obtain⟨a,rfl⟩:∃a,m=a+1:=⟨m-1,by omega⟩
  exact xeC 0 a R s i bad w h (.inr rfl) b
 | succ n ih=>
  intro f m R s i bad w e h c b g
  obtain⟨a,rfl⟩:∃a,m=a+1:=⟨m-1,by omega⟩
  have d:=ih (by omega)
  cases bad with
  | true=>exact xeC (n+1) a R s i true w h (.inl rfl) b
  | false=>
   have b:=b rfl
   by_cases h1:lookB s i=110
   ·exact l2_num n a R s i w h c b h1
   by_cases h2:lookB s i=116
   ·exact xjL n a R s i w h c b h2
   by_cases h3:lookB s i=102
   ·exact xjM n a R s i w h c b h3
   by_cases h4:lookB s i=63
   ·exact xhA n d a R s i w (by omega) (by omega) h c b h4
   by_cases h5:lookB s i=91
   ·exact xjN n d a R s i w (by omega) (by omega) h c b h5
   ·exact xjO n d a R s i w (by omega) (by omega) h c b h1 h2 h3 h4 h5
def qeI(m:Nat)(k:K m)(ok:Bool)(w:World)(e:Ending)(w':World):Prop:=
 Below w.heap.size w w' /\ ∃c0 c1 c2,e=.returned (.tuple #[.agg #[c0,c1,c2],.bool ok])/\KindIn (fun b=>w.heap.size<=b/\b<w'.heap.size) w' m k c0 c1 c2
theorem qtC{m:Nat}{s:ByteArray}{w w':World}(h:readK (m+1) s=none)(hb:Below w.heap.size w w'):qeI (m+1) (ansR m s) (okR m s) w (.returned (.tuple #[.agg #[.int .i64 0,.slice none 0 0,.slice none 0 0],.bool false])) w':=by
 obtain⟨a,b⟩:=qsN h
 rw[a,b]
 exact⟨hb,_,_,_,rfl,qwP _ _ m⟩
theorem xhB{m:Nat}{s:ByteArray}{t:K (m+1)}{i':Nat}{bad':Bool}(hg:GotK (m+1) 6 s 0 false t i' bad')(k:K (m+1))(h:readK (m+1) s=some k):t=k/\bad'=false/\i'=s.size/\okK (m+1) t=true/\txtK (m+1) t=s.data.toList:=by
 obtain⟨g,a,b⟩:=qhE h
 obtain⟨-,-,-,-,c⟩:=hg
 obtain⟨d,e,f⟩:=c k [] rfl (by rw[List.drop_zero,List.append_nil,b]) (qpF a).1
 subst d
 refine⟨rfl,e,?_,a,b⟩
 rw[f,b];simp
theorem qlH{m:Nat}{s:ByteArray}{t:K (m+1)}{i':Nat}{bad':Bool}(hg:GotK (m+1) 6 s 0 false t i' bad')(h:bad'=true∨i'≠s.size∨okK (m+1) t=false∨txtK (m+1) t≠s.data.toList):readK (m+1) s=none:=by
 cases hr:readK (m+1) s with
 | none=>rfl
 | some k=>
  obtain⟨-,a,b,c,d⟩:=xhB hg k hr
  rcases h with h|h|h|h
  ·rw[a]at h;cases h
  ·exact absurd b h
  ·rw[c]at h;cases h
  ·exact absurd d h
theorem qjJ (s:ByteArray) (m:Nat) (hm:7<=m+1) (hs:s.size<=1048576) (w:World) :
  Calls prog 28 #[.string s] w (qeI (m+1) (ansR m s) (okR m s) w):=by
 obtain⟨W1,z⟩:∃W1,W1=w.alloc (.cells #[.int .i64 0,.slice none 0 0,.slice none 0 0] 55):=⟨_,rfl⟩
 have aA:W1.heap.size=w.heap.size+1:=by rw[z];simp
 have D:Below w.heap.size w W1:=by rw[z];exact (Below.refl _ _).alloc (Nat.le_refl _) _
 have k:W1.heap[w.heap.size]?=some (.cells #[.int .i64 0,.slice none 0 0,.slice none 0 0] 55 (0,0)):=by rw[z];exact heap_alloc_new _ _
 have I:Hid (∀W:World,Below w.heap.size w W->Below w.heap.size w (put3 W w.heap.size 0 (.int .i64 0) (.slice none 0 0) (.slice none 0 0))):=fun W h=>qeW h (Nat.le_refl _)
 by_cases h8:s.size<=800
 case neg=>
  have aG:(800:Int)<(s.size:Int):=by omega
  have u:Hid (∀o,qeI (m+1) (ansR m s) (okR m s) w (.returned (.tuple #[.agg #[.int .i64 0,.slice none 0 0,.slice none 0 0],.bool false])) (w.alloc o)):=fun o=>qtC (qoQ h8) ((Below.refl _ _).alloc (Nat.le_refl _) _)
  clear D k aA h8
  go_enter func28,ntmps28
  go_wp2_with fail
  refine bodyPost_ret (v:=.tuple #[.agg #[.int .i64 0,.slice none 0 0,.slice none 0 0],.bool false]) (by simp[results,results28,go_sem]) rfl ?_
  exact u.out _
 have aH:¬(800:Int)<(s.size:Int):=by omega
 obtain⟨W2,x⟩:∃W2,W2=W1.alloc (.cells #[.string s,.int .i64 0,.bool false] 72):=⟨_,rfl⟩
 have aI:W2.heap.size=w.heap.size+2:=by rw[x];simp;omega
 have y:Below w.heap.size w W2:=by rw[x];exact D.alloc D.size _
 have aB:RdS W2 (w.heap.size+1) s ((0:Nat):Int) false:=by
  show W2.heap[w.heap.size+1]?=_
  rw[x,<- aA];exact heap_alloc_new _ _
 have p:W2.heap[w.heap.size]?=some (.cells #[.int .i64 0,.slice none 0 0,.slice none 0 0] 55 (0,0)):=by rw[x,Below.heap_alloc _ _ _ (by omega)];exact k
 have HK:Hid (Calls prog 41 #[.pointer (some ⟨w.heap.size+1,0,none⟩),.int .i64 1] W2 (qbC (m+1) 6 W2 (w.heap.size+1) s 0 false)):=qzF 6 (Nat.le_refl _) (m+1) (w.heap.size+1) s 0 false W2 hm aB (by omega) (fun _=>Nat.zero_le _) (by omega)
 clear aB k D
 go_enter func28,ntmps28
 go_wp2_with fail
 rw[<- z,<- x]
 clear z x
 refine HK.out.mono ?_
 rintro e w3 ⟨l,t,d0,d1,d2,i',A,rfl,ht,O,hG⟩
 obtain⟨U,V,X,Y,Z,yl,yc,rfl,rfl,rfl⟩:=ht.shape
 have aJ:=l.size
 have J:Below w.heap.size w w3:=⟨l.os.trans y.os,l.tape.trans y.tape,l.output.trans y.output,by omega,fun b hb=>(l.block b (by omega) (by omega)).trans (y.block b hb)⟩
 have q:w3.heap[w.heap.size]?=some (.cells #[.int .i64 0,.slice none 0 0,.slice none 0 0] 55 (0,0)):=(l.block _ (by omega) (by omega)).trans p
 obtain⟨i,n⟩:∃i,i=w3.alloc (.cells #[.int .i64 U,.slice V X Y,.slice Z yl yc] 55):=⟨_,rfl⟩
 have aK:i.heap.size=w3.heap.size+1:=by rw[n];simp
 have f:Below w3.heap.size w3 i:=by rw[n];exact (Below.refl _ _).alloc (Nat.le_refl _) _
 have E:=qaA J J.size f
 have r:=(f.block w.heap.size (by omega)).trans q
 obtain⟨j,P⟩:=ht.step (fun b hb=>hb.2) f
 have K:RdS i (w.heap.size+1) s i' A:=(f.block _ O.lt).trans O
 have g:Box3 i w3.heap.size (.int .i64 U) (.slice V X Y) (.slice Z yl yc):=by rw[n];exact Box3.new _ _ _ _ _
 have c1:=K.cell1
 have c2:=K.cell2
 have F:Hid (GotK (m+1) 6 s 0 false t i' A):=hG
 obtain⟨Q,R,S⟩:=id g
 have a:Hid (∀W:World,Below i.heap.size i W->readK (m+1) s=none->qeI (m+1) (ansR m s) (okR m s) w (.returned (.tuple #[.agg #[.int .i64 0,.slice none 0 0,.slice none 0 0],.bool false])) (put3 W w.heap.size 0 (.int .i64 0) (.slice none 0 0) (.slice none 0 0))):=fun W hW h=>qtC h (I.out W (qaA E E.size hW))
 have G:Hid (∀W:World,Below i.heap.size i W->W.heap[w.heap.size]?=some (.cells #[.int .i64 0,.slice none 0 0,.slice none 0 0] 55 (0,0))):=fun W hW=>(hW.block w.heap.size (by omega)).trans r
 have HB:Hid (Below w.heap.size w i):=E
 clear HK hG ht O K l J f E p q r y I
 cases A with
 | true=>
  obtain⟨⟨r0,B,C⟩,f0,f1,f2⟩:=qbX (G.out i (Below.refl _ _))
  have u:Hid _:=a.out i (Below.refl _ _) (qlH F.out (.inl rfl))
  rw[n]at c1 c2 Q R S r0 B C f0 f1 f2 u
  clear g j a G F
  go_wp2_with fail
  refine bodyPost_ret (v:=.tuple #[.agg #[.int .i64 0,.slice none 0 0,.slice none 0 0],.bool false]) (by simp[results,results28,go_sem,r0,B,C]) rfl ?_
  exact u.out
 | false=>
  by_cases hat:i'=s.size
  case neg=>
   have aC:((i':Int) != (s.size:Int))=true:=by simp;omega
   obtain⟨⟨r0,B,C⟩,f0,f1,f2⟩:=qbX (G.out i (Below.refl _ _))
   have u:Hid _:=a.out i (Below.refl _ _) (qlH F.out (.inr (.inl hat)))
   rw[n]at c1 c2 Q R S r0 B C f0 f1 f2 u
   clear g j a G F hat
   go_wp2_with fail
   refine bodyPost_ret (v:=.tuple #[.agg #[.int .i64 0,.slice none 0 0,.slice none 0 0],.bool false]) (by simp[results,results28,go_sem,r0,B,C]) rfl ?_
   exact u.out
  have aC:((i':Int) != (s.size:Int))=false:=by simp;omega
  have L:Hid (Calls prog 42 #[.agg #[.int .i64 U,.slice V X Y,.slice Z yl yc]] i _):=qvA (m+1) _ t _ _ _ i j P
  rw[n]at c1 c2 Q R S
  clear hat
  go_wp2_with fail
  rw[<- n]
  clear c1 c2 Q R S
  refine L.out.mono ?_
  rintro e w5 ⟨rfl,d⟩
  have aD:=d.size
  obtain⟨Q,R,S⟩:=g.keep d
  cases hok:okK (m+1) t with
  | false=>
   obtain⟨⟨r0,B,C⟩,f0,f1,f2⟩:=qbX (G.out w5 d)
   have u:Hid _:=a.out w5 d (qlH F.out (.inr (.inr (.inl hok))))
   clear g j a G F d L hok
   go_wp2_with fail
   refine bodyPost_ret (v:=.tuple #[.agg #[.int .i64 0,.slice none 0 0,.slice none 0 0],.bool false]) (by simp[results,results28,go_sem,r0,B,C]) rfl ?_
   exact u.out
  | true=>
   have hp:=qpF hok
   obtain⟨T,aF⟩:=j.step P d
   have M:Hid (Calls prog 43 _ w5 _):=qzE (m+1) _ t _ _ _ 1 w5 T aF hp.1 hp.2
   have N:Hid (okK (m+1) t=true):=hok
   clear hok hp L
   go_wp2_with fail
   refine M.out.mono ?_
   rintro e w6 ⟨rfl,H⟩
   have aL:=H.size
   have c:=qaA d aD H
   clear Q R S
   obtain⟨Q,R,S⟩:=g.keep c
   obtain⟨⟨r0,B,C⟩,f0,f1,f2⟩:=qbX (G.out w6 c)
   by_cases htx:txtK (m+1) t=s.data.toList
   ·have hq:((bs (txtK (m+1) t)).toList==s.toList)=true:=by rw[htx,bs_of];simp
    have u:Hid (qeI (m+1) (ansR m s) (okR m s) w (.returned (.tuple #[.agg #[.int .i64 U,.slice V X Y,.slice Z yl yc],.bool true])) (put3 w6 w.heap.size 0 (.int .i64 U) (.slice V X Y) (.slice Z yl yc))):=by
     obtain⟨q1,q2⟩:=qsM (xfK h8 N.out htx)
     rw[q1,q2]
     have aE:=(j.step P c).1
     refine⟨qeW (qaA HB.out HB.out.size c) (Nat.le_refl _),_,_,_,rfl,aE.keep (fun b hb=>qcV (by omega)) (fun b hb=>by rw[qfG];omega)⟩
    clear g j T a G F d H c M htx N
    go_wp2_with fail
    refine bodyPost_ret (v:=.tuple #[.agg #[.int .i64 U,.slice V X Y,.slice Z yl yc],.bool true]) (by simp[results,results28,go_sem,r0,B,C]) rfl ?_
    exact u.out
   ·have hq:((bs (txtK (m+1) t)).toList==s.toList)=false:=by
     rw[beq_eq_false_iff_ne]
     intro e
     apply htx
     rw[ByteArray.toList_eq,ByteArray.toList_eq,qcB]at e
     exact e
    have u:Hid _:=a.out w6 c (qlH F.out (.inr (.inr (.inr htx))))
    clear g j T a G F d H c M htx N
    go_wp2_with fail
    refine bodyPost_ret (v:=.tuple #[.agg #[.int .i64 0,.slice none 0 0,.slice none 0 0],.bool false]) (by simp[results,results28,go_sem,r0,B,C]) rfl ?_
    exact u.out
theorem xhC{α:Type}(n:Nd α)(act:Bool)(h:¬((1<=n.sort/\n.sort<=43)/\act=decide (36<=n.sort))):qcY n act=false:=by
 unfold qcY
 by_cases h1:1<=n.sort/\n.sort<=43
 ·have a:(act==decide (36<=n.sort))=false:=by
   rw[Bool.eq_false_iff];intro e;exact h ⟨h1,by simpa using e⟩
  rw[a];simp
 ·rw[decide_eq_false h1];rfl
theorem qvB (m:Nat) (n:Nd (T m)) (na ka:Option Addr) (nc kc:Nat) (act:Bool) (w:World) (h:¬ ((1<=n.sort/\n.sort<=43)/\act=decide (36<=n.sort))) :
  Calls prog 76 #[.agg #[.int .i64 n.sort,.int .i64 n.num,.string n.text,.slice na n.names.length nc,.slice ka n.kids.length kc],.bool act] w fun e w'=>e=.returned (.bool (qcY n act))/\Below w.heap.size w w':=by
 have b:=(Below.refl w.heap.size w).alloc (Nat.le_refl _) (.cells #[.int .i64 n.sort,.int .i64 n.num,.string n.text,.slice na n.names.length nc,.slice ka n.kids.length kc] 25)
 have c:=hidF (xhC n act h)
 have a:Hid (∀w,Calls prog 45 #[.int .i64 n.sort,.int .i64 1,.int .i64 43] w _):=fun w=>qcJ n.sort 1 43 w
 by_cases h1:1<=n.sort/\n.sort<=43
 ·have d:¬act=decide (36<=n.sort):=fun e=>h ⟨h1,e⟩
  rw[decide_eq_true h1]at a
  clear h h1
  generalize n.sort=s at *
  by_cases h36:36<=s
  ·rw[decide_eq_true h36]at d
   have g:decide (36<=s)=true:=decide_eq_true h36
   obtain rfl:act=false:=by cases act<;>simp_all
   go_enter func76,ntmps76
   go_wp2_with fail
   refine (a.out _).mono ?_
   rintro e f ⟨rfl,rfl⟩
   go_wp2_with fail
   go_ret
   exact⟨qaD c.out.symm,b⟩
  ·rw[decide_eq_false h36]at d
   have g:decide (36<=s)=false:=decide_eq_false h36
   obtain rfl:act=true:=by cases act<;>simp_all
   go_enter func76,ntmps76
   go_wp2_with fail
   refine (a.out _).mono ?_
   rintro e f ⟨rfl,rfl⟩
   go_wp2_with fail
   go_ret
   exact⟨qaD c.out.symm,b⟩
 ·rw[decide_eq_false h1]at a
  clear h h1
  go_enter func76,ntmps76
  go_wp2_with fail
  refine (a.out _).mono ?_
  rintro e f ⟨rfl,rfl⟩
  go_wp2_with fail
  go_ret
  exact⟨qaD c.out.symm,b⟩
theorem qqM (S:Nat->Prop) (m:Nat) (num:Int) (text:ByteArray) (names:List ByteArray) (kids:List (T m)) (na ka:Option Addr) (nc kc:Nat) (w:World) (h3:StrsIn S w names (.slice na names.length nc)) (hB:∀ b,S b->b<w.heap.size) :
  Calls prog 76 #[.agg #[.int .i64 24,.int .i64 num,.string text,.slice na names.length nc,.slice ka kids.length kc],.bool false] w fun e w'=>e=.returned (.bool ((num==0) && text.toList.isEmpty && riseB names && (names.length==kids.length) && !(names.any (fun y=>y==bs [101,110,100]))))/\Below w.heap.size w w':=by
 have f:=(Below.refl w.heap.size w).alloc (Nat.le_refl _) (.cells #[.int .i64 24,.int .i64 num,.string text,.slice na names.length nc,.slice ka kids.length kc] 25)
 have i:=h3.keep (qaB f hB) (fun _ h=>h)
 have g:Hid (∀w,Calls prog 45 #[.int .i64 24,.int .i64 1,.int .i64 43] w _):=fun w=>qcJ 24 1 43 w
 have j:Hid (Calls prog 75 _ _ _):=qjW S names _ _ i (fun b hb=>Nat.lt_of_lt_of_le (hB b hb) f.size)
 have n:Hid (∀c,Below w.heap.size w c->Calls prog 97 #[.slice na names.length nc,.string (bs [101,110,100])] c _):=fun c a=>xcD S names _ (bs [101,110,100]) c (h3.keep (qaB a hB) (fun _ h=>h))
 have k:Hid (∀c,Below (w.alloc (.cells #[.int .i64 24,.int .i64 num,.string text,.slice na names.length nc,.slice ka kids.length kc] 25)).heap.size (w.alloc (.cells #[.int .i64 24,.int .i64 num,.string text,.slice na names.length nc,.slice ka kids.length kc] 25)) c->Below w.heap.size w c/\c.cell? ⟨w.heap.size,3,none⟩=some (.slice na names.length nc)/\c.cell? ⟨w.heap.size,4,none⟩=some (.slice ka kids.length kc)):=by
  intro c a
  have l:=qdM ((a.block w.heap.size (by simp)).trans (heap_alloc_last w _))
  exact⟨qaA f (by simp) a,l.2.2.2.1,l.2.2.2.2⟩
 have o:((names.length:Int)==(kids.length:Int))=(names.length==kids.length):=by
  by_cases h:names.length=kids.length
  ·rw[h];simp
  ·have p:¬(names.length:Int)=(kids.length:Int):=by omega
   rw[beq_eq_false_iff_ne.2 h,beq_eq_false_iff_ne.2 p]
 have q:(text.toList==[])=text.toList.isEmpty:=by cases text.toList<;>rfl
 clear h3 i
 generalize riseB names=ri at *
 generalize (names.any (fun y=>y==bs [101,110,100]))=ha at *
 generalize (names.length==kids.length)=le at *
 generalize text.toList.isEmpty=em at *
 generalize hnz:(num==0)=nz at *
 by_cases h0:nz=true
 ·subst h0
  cases em with
  | false=>
   go_enter func76,ntmps76
   go_wp2_with fail
   refine (g.out _).mono ?_
   rintro e c ⟨rfl,rfl⟩
   go_wp2_with fail
   go_ret
   exact⟨qaD (by simp),f⟩
  | true=>
   cases ri with
   | false=>
    go_enter func76,ntmps76
    go_wp2_with fail
    refine (g.out _).mono ?_
    rintro e c ⟨rfl,rfl⟩
    go_wp2_with fail
    refine j.out.mono ?_
    rintro e c ⟨rfl,a⟩
    obtain⟨d,z3,z4⟩:=k.out c a
    clear a
    go_wp2_with fail
    go_ret
    exact⟨qaD (by simp),d⟩
   | true=>
    cases le with
    | false=>
     go_enter func76,ntmps76
     go_wp2_with fail
     refine (g.out _).mono ?_
     rintro e c ⟨rfl,rfl⟩
     go_wp2_with fail
     refine j.out.mono ?_
     rintro e c ⟨rfl,a⟩
     obtain⟨d,z3,z4⟩:=k.out c a
     clear a
     go_wp2_with fail
     go_ret
     exact⟨qaD (by simp),d⟩
    | true=>
     go_enter func76,ntmps76
     go_wp2_with fail
     refine (g.out _).mono ?_
     rintro e c ⟨rfl,rfl⟩
     go_wp2_with fail
     refine j.out.mono ?_
     rintro e c ⟨rfl,a⟩
     obtain⟨d,z3,z4⟩:=k.out c a
     clear a
     go_wp2_with fail
     refine (n.out _ d).mono ?_
     rintro e w2 ⟨rfl,rfl⟩
     go_wp2_with fail
     go_ret
     exact⟨qaD (by simp),d⟩
 ·obtain rfl:nz=false:=by simpa using h0
  go_enter func76,ntmps76
  go_wp2_with fail
  refine (g.out _).mono ?_
  rintro e c ⟨rfl,rfl⟩
  go_wp2_with fail
  go_ret
  exact⟨qaD (by simp),f⟩
end Go.Proofs.YtelogmjfekhmpaaGreatDoor
