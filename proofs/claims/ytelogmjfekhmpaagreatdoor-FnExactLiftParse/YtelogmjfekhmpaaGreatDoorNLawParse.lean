import Derived.Test.YtelogmjfekhmpaaGreatDoorNMark
import Derived.Test.YtelogmjfekhmpaaGreatDoorTOut0
import Derived.Test.YtelogmjfekhmpaaGreatDoorNEq
import Derived.Test.YtelogmjfekhmpaaGreatDoorMark3
import Derived.Test.YtelogmjfekhmpaaGreatDoorBox
import Derived.Test.YtelogmjfekhmpaaGreatDoorPNE
namespace Go.Proofs.YtelogmjfekhmpaaGreatDoor
set_option maxRecDepth 100000
set_option maxHeartbeats 16000000
open Go.RowKit
theorem Box5.eqbN {w w':World} {N:Nat} {a b c d e:Value} (h:Box5 w N a b c d e) (hb:w'.heap[N]?=w.heap[N]?):Box5 w' N a b c d e:=
 ⟨(World.cell?_of_block (w:=w) (w':=w') (a:=⟨N,0,none⟩) hb).trans h.c0,(World.cell?_of_block (w:=w) (w':=w') (a:=⟨N,1,none⟩) hb).trans h.c1,(World.cell?_of_block (w:=w) (w':=w') (a:=⟨N,2,none⟩) hb).trans h.c2,
  (World.cell?_of_block (w:=w) (w':=w') (a:=⟨N,3,none⟩) hb).trans h.c3,(World.cell?_of_block (w:=w) (w':=w') (a:=⟨N,4,none⟩) hb).trans h.c4⟩
theorem qtU (x y:Int) (w:World):Calls Tryz.prog 7 #[.agg #[.int .i64 x,.int .i64 y],.agg #[.int .i64 x,.int .i64 y]] w fun e w'=>e=.returned (.bool true)/\Below w.heap.size w w':=by
 have HB:=Lib.hid (((Below.refl w.heap.size w).alloc (Nat.le_refl _) (.cells #[.int .i64 x,.int .i64 y] 27)).alloc (by simp) (.cells #[.int .i64 x,.int .i64 y] 27))
 have h1:(x != x)=false:=by simp
 have h2:(y != y)=false:=by simp
 go_enter Tryz.func7,Tryz.ntmps7
 go_wp2_with fail
 go_ret
 exact⟨rfl,HB.out⟩
structure SitN (k:T 25) (fc fa:Int) (P:Nat->Prop) (A G:Nat) (p0 p1 p2 p3 p4 g0 g1 g2 g3 g4:Value) (w u:World):Prop where
 below:Below w.heap.size w u
 ansBox:Box5 u A p0 p1 p2 p3 p4
 ansF:u.heap[A+1]?=some (.cells #[.int .i64 fc,.int .i64 fa] 27 (0,0))
 ans:NodeIn P u 25 k p0 p1 p2 p3 p4
 ansB:∀ b,P b->b<A
 gotBox:Box5 u G g0 g1 g2 g3 g4
 ag:A+1<G
 gu:G<u.heap.size
theorem SitN.step {k:T 25} {fc fa:Int} {P:Nat->Prop} {A G:Nat} {p0 p1 p2 p3 p4 g0 g1 g2 g3 g4:Value} {w u u':World} (h:SitN k fc fa P A G p0 p1 p2 p3 p4 g0 g1 g2 g3 g4 w u) {Z:Nat->Prop} (hb:Below w.heap.size w u') (hz:u.heap.size<=u'.heap.size)
  (hs:∀ b:Nat,b<u.heap.size->¬ Z b->u'.heap[b]?=u.heap[b]?) (hZ:∀ b,Z b->A+1<b/\b≠G):SitN k fc fa P A G p0 p1 p2 p3 p4 g0 g1 g2 g3 g4 w u':=by
 have ag:=h.ag
 have gu:=h.gu
 have q:∀ b,b<=A+1->u'.heap[b]?=u.heap[b]?:=fun b hb=>hs b (by omega) (fun hz=>by have:=hZ b hz;omega)
 exact⟨hb,h.ansBox.eqbN (q A (by omega)),(q (A+1) (Nat.le_refl _)).trans h.ansF,h.ans.keep (fun b hb=>q b (by have:=h.ansB b hb;omega)) (fun _ h=>h),h.ansB,
  h.gotBox.eqbN (hs G gu (fun hz=>(hZ G hz).2 rfl)),ag,by omega⟩
theorem SitN.keep {k:T 25} {fc fa:Int} {P:Nat->Prop} {A G:Nat} {p0 p1 p2 p3 p4 g0 g1 g2 g3 g4:Value} {w u u':World} (h:SitN k fc fa P A G p0 p1 p2 p3 p4 g0 g1 g2 g3 g4 w u) (hw:w.heap.size<=u.heap.size) (hb:Below u.heap.size u u') :
  SitN k fc fa P A G p0 p1 p2 p3 p4 g0 g1 g2 g3 g4 w u':=h.step (Z:=fun _=>False) (qaA h.below hw hb) hb.size (fun b hb' _=>hb.block b hb') (fun _ h=>h.elim)
def qtV (s:ByteArray) (k:T 25) (fc fa:Int):Prop:=∀ w,Calls Tryz.prog 4 #[.string s] w fun e w'=>Below w.heap.size w w' /\ ∃ c0 c1 c2 c3 c4,e=.returned (.tuple #[.agg #[c0,c1,c2,c3,c4],.agg #[.int .i64 fc,.int .i64 fa]])/\NodeIn (fun b=>w.heap.size<=b/\b<w'.heap.size) w' 25 k c0 c1 c2 c3 c4
def qtW (B:Nat) (wb:World) (s:ByteArray) (k:T 25) (fc fa:Int):Prop:=∀ w,Below B wb w->Calls Tryz.prog 5 #[.string s] w fun e w'=>Below w.heap.size w w' /\ ∃ c0 c1 c2 c3 c4 L3 L4,e=.returned (.tuple #[.agg #[c0,c1,c2,c3,c4],.agg #[.int .i64 fc,.int .i64 fa]])/\NodeIn (fun b=>w.heap.size<=b/\b<w'.heap.size) w' 25 k c0 c1 c2 c3 c4 /\
 SpN w' c3 L3/\SpR w' (25 - 1) c4 L4/\Own (fun b=>w.heap.size<=b/\b<w'.heap.size) (L3++L4)/\(L3++L4).length<=1000000
theorem qtX (s:ByteArray) (k:T 25) (fc fa:Int) (hSp:qtV s k fc fa) (w:World) (hIm:qtW w.heap.size w s k fc fa) (hs:s.size<=1048576) :
  Calls Tryz.prog 3 #[.string s] w fun e w'=>e=.returned (.bool true)/\Below w.heap.size w w':=by
 have cQ:Hid (qtV s k fc fa):=hSp
 have cG:Hid (qtW w.heap.size w s k fc fa):=hIm
 have cY:¬ (1048576:Int)<(s.size:Int):=by omega
 have cH:=Lib.hid (fun W=>qtU fc fa W)
 clear hSp hIm
 go_enter Tryz.func3,Tryz.ntmps3
 go_wp2_with fail
 refine (cQ.out w).mono ?_
 rintro e w3 ⟨cA,p0,p1,p2,p3,p4,rfl,cB⟩
 obtain⟨s0,s1,s2,sa,sl,sc,ra,rl,rc,rfl,rfl,rfl,rfl,rfl⟩:=cB.shape
 have cR:=cA.size
 have bV:=((Below.refl w3.heap.size w3).alloc (Nat.le_refl _) (.cells #[.int .i64 s0,.int .i64 s1,.string s2,.slice sa sl sc,.slice ra rl rc] 25)).alloc (by simp) (.cells #[.int .i64 fc,.int .i64 fa] 27)
 have hA:=(Box5.new w3 (.int .i64 s0) (.int .i64 s1) (.string s2) (.slice sa sl sc) (.slice ra rl rc) 25).keep ((Below.refl _ _).alloc (Nat.le_refl _) (.cells #[.int .i64 fc,.int .i64 fa] 27))
 have cI:((w3.alloc (.cells #[.int .i64 s0,.int .i64 s1,.string s2,.slice sa sl sc,.slice ra rl rc] 25)).alloc (.cells #[.int .i64 fc,.int .i64 fa] 27)).heap[w3.heap.size+1]?=some (.cells #[.int .i64 fc,.int .i64 fa] 27 (0,0)):=by
  have:=heap_alloc_new (w3.alloc (.cells #[.int .i64 s0,.int .i64 s1,.string s2,.slice sa sl sc,.slice ra rl rc] 25)) (.cells #[.int .i64 fc,.int .i64 fa] 27)
  rw[World.size_alloc]at this;exact this
 obtain⟨cC,cD⟩:=cB.step (fun b hb=>hb.2) bV
 have aB:=qaA cA cR bV
 have cS:((w3.alloc (.cells #[.int .i64 s0,.int .i64 s1,.string s2,.slice sa sl sc,.slice ra rl rc] 25)).alloc (.cells #[.int .i64 fc,.int .i64 fa] 27)).heap.size=w3.heap.size+2:=by simp
 clear bV cB cA
 obtain⟨WA,cE⟩:∃ WA,WA=(w3.alloc (.cells #[.int .i64 s0,.int .i64 s1,.string s2,.slice sa sl sc,.slice ra rl rc] 25)).alloc (.cells #[.int .i64 fc,.int .i64 fa] 27):=⟨_,rfl⟩
 rw[<- cE]at hA cI cC cD aB cS
 have cT:Hid (Below w.heap.size w WA):=aB
 go_wp2_with fail
 rw[<- cE]
 clear cE
 refine (cG.out WA cT.out).mono ?_
 rintro e w6 ⟨bD,g0,g1,g2,g3,g4,L3,L4,rfl,cF,cO,cP,ho,bT⟩
 obtain⟨u0,u1,u2,ua,ul,uc,qa,ql,qc,rfl,rfl,rfl,rfl,rfl⟩:=cF.shape
 have cZ:=bD.size
 have aH:=((Below.refl w6.heap.size w6).alloc (Nat.le_refl _) (.cells #[.int .i64 u0,.int .i64 u1,.string u2,.slice ua ul uc,.slice qa ql qc] 25)).alloc (by simp) (.cells #[.int .i64 fc,.int .i64 fa] 27)
 have bS:=(Box5.new w6 (.int .i64 u0) (.int .i64 u1) (.string u2) (.slice ua ul uc) (.slice qa ql qc) 25).keep ((Below.refl _ _).alloc (Nat.le_refl _) (.cells #[.int .i64 fc,.int .i64 fa] 27))
 have aQ:((w6.alloc (.cells #[.int .i64 u0,.int .i64 u1,.string u2,.slice ua ul uc,.slice qa ql qc] 25)).alloc (.cells #[.int .i64 fc,.int .i64 fa] 27)).heap[w6.heap.size+1]?=some (.cells #[.int .i64 fc,.int .i64 fa] 27 (0,0)):=by
  have:=heap_alloc_new (w6.alloc (.cells #[.int .i64 u0,.int .i64 u1,.string u2,.slice ua ul uc,.slice qa ql qc] 25)) (.cells #[.int .i64 fc,.int .i64 fa] 27)
  rw[World.size_alloc]at this;exact this
 obtain⟨w7,bU⟩:∃ w7,w7=(w6.alloc (.cells #[.int .i64 u0,.int .i64 u1,.string u2,.slice ua ul uc,.slice qa ql qc] 25)).alloc (.cells #[.int .i64 fc,.int .i64 fa] 27):=⟨_,rfl⟩
 have dA:w7.heap.size=w6.heap.size+2:=by rw[bU];simp
 rw[<- bU]at aH bS aQ
 have sit7:SitN k fc fa (fun b=>w.heap.size<=b/\b<w3.heap.size) w3.heap.size w6.heap.size (.int .i64 s0) (.int .i64 s1) (.string s2) (.slice sa sl sc) (.slice ra rl rc) (.int .i64 u0) (.int .i64 u1) (.string u2) (.slice ua ul uc) (.slice qa ql qc) w w7:=
  ⟨qaA (qaA aB aB.size bD) (by have:=aB.size;omega) aH,(hA.keep bD).keep aH,(aH.block _ (by omega)).trans ((bD.block _ (by omega)).trans cI),((cC.step cD bD).1.step (fun b hb=>by omega) aH).1,fun b hb=>hb.2,bS,by omega,by omega⟩
 have cJ:=(cF.step (fun b hb=>hb.2) aH).1
 have cK:=cO.below aH
 have cL:=cP.below aH
 obtain⟨a0,a1,a2,a3,a4⟩:=id sit7.ansBox
 obtain⟨b0,b1,b2,b3,b4⟩:=id bS
 have cM:Hid (Calls Tryz.prog 6 _ _ _):=qnH 25 _ _ k _ _ _ _ _ _ _ _ _ _ w7 cJ.tree sit7.ans.tree (fun b hb=>by omega) (fun b hb=>by have:=aB.size;omega)
 have aR:Hid (SitN k fc fa (fun b=>w.heap.size<=b/\b<w3.heap.size) w3.heap.size w6.heap.size (.int .i64 s0) (.int .i64 s1) (.string s2) (.slice sa sl sc) (.slice ra rl rc) (.int .i64 u0) (.int .i64 u1) (.string u2) (.slice ua ul uc) (.slice qa ql qc) w w7):=sit7
 have HG:Hid (SpN w7 (.slice ua ul uc) L3/\SpR w7 (25 - 1) (.slice qa ql qc) L4):=⟨cK,cL⟩
 have HO:Hid (Own (fun b=>WA.heap.size<=b/\b<w6.heap.size) (L3++L4)/\(L3++L4).length<=1000000):=⟨ho,bT⟩
 have cN:w.heap.size<=w7.heap.size:=by have:=aB.size;omega
 clear sit7 cJ cK cL cF cO cP ho bT aH bS hA cC cD aB bD
 have bE:=Lib.hid aQ
 clear aQ
 go_upto_region 5 with fail
 rw[<- bU]
 clear bU
 go_wp2_with fail
 refine cM.out.mono ?_
 rintro e w80 ⟨rfl,aG⟩
 have s80:=aR.out.keep cN aG
 obtain⟨⟨fb0,fb1⟩,-⟩:=qbZ s80.ansF
 obtain⟨⟨fg0,fg1⟩,-⟩:=qbZ ((aG.block (w6.heap.size+1) (by omega)).trans bE.out)
 have bF:=Lib.hid aG
 have bW:=aG.size
 clear cM a0 a1 a2 a3 a4 b0 b1 b2 b3 b4 s80 aG bE
 go_wp2_with fail
 refine (cH.out w80).mono ?_
 rintro e w8 ⟨rfl,bQ⟩
 have bG:=qaA bF.out bW bQ
 clear fb0 fb1 fg0 fg1 bF bQ
 have dB:=bG.size
 have s12:=aR.out.keep cN bG
 have aI:=HG.out.1.below bG
 have aJ:=HG.out.2.below bG
 have bT:=HO.out.2
 rw[List.length_append]at bT
 have aN:∀ s,s∈L3++L4->s.ok w8:=fun s hs=>(List.mem_append.1 hs).elim (aI.ok s) (aJ.ok s)
 have bH:Hid (Calls Tryz.prog 8 _ _ _):=qtS (25 - 1) u0 u1 u2 _ _ L3 L4 1 w8 aI aJ (by omega) (by omega)
 have aS:Hid (SitN k fc fa (fun b=>w.heap.size<=b/\b<w3.heap.size) w3.heap.size w6.heap.size (.int .i64 s0) (.int .i64 s1) (.string s2) (.slice sa sl sc) (.slice ra rl rc) (.int .i64 u0) (.int .i64 u1) (.string u2) (.slice ua ul uc) (.slice qa ql qc) w w8):=s12
 have bC:Hid (SpN w8 (.slice ua ul uc) L3/\SpR w8 (25 - 1) (.slice qa ql qc) L4/\∀ s,s∈L3++L4->s.ok w8):=⟨aI,aJ,aN⟩
 obtain⟨b0,b1,b2,b3,b4⟩:=id s12.gotBox
 clear s12 aI aJ aN aR HG bG
 go_wp2_with fail
 refine bH.out.mono ?_
 rintro e w13 ⟨rfl,aE⟩
 have bX:=aE.size
 have bI:∀ b:Nat,b<w8.heap.size->¬ (WA.heap.size<=b/\b<w6.heap.size)->w13.heap[b]?=w8.heap[b]?:=fun b hb hn=>aE.other hb (fun s hs e=>hn (by rw[<- e];exact HO.out.1.1 s hs))
 have s13:=aS.out.step (u':=w13) (Z:=fun b=>WA.heap.size<=b/\b<w6.heap.size) (Wrote.below_of aS.out.below (by omega) aE (fun s hs=>by have:=HO.out.1.1 s hs;omega)) bX bI (fun b hb=>by omega)
 have aT:=aE.holds bC.out.2.2 HO.out.1.2
 have aK:=aE.sim bC.out.2.2
 have aU:=bC.out.1.sim aK
 have aV:=SpR.sim aK bC.out.2.1
 have bJ:Hid (Calls Tryz.prog 9 _ _ _):=qkY (25 - 1) u0 u1 u2 _ _ L3 L4 1 w13 aU aV aT (by omega) (by omega)
 have aF:Hid (SitN k fc fa (fun b=>w.heap.size<=b/\b<w3.heap.size) w3.heap.size w6.heap.size (.int .i64 s0) (.int .i64 s1) (.string s2) (.slice sa sl sc) (.slice ra rl rc) (.int .i64 u0) (.int .i64 u1) (.string u2) (.slice ua ul uc) (.slice qa ql qc) w w13):=s13
 have bK:Hid (SpN w13 (.slice ua ul uc) L3/\SpR w13 (25 - 1) (.slice qa ql qc) L4/\Holds w13 (L3++L4) 1/\∀ s,s∈L3++L4->s.ok w13):=⟨aU,aV,aT,fun s hs=>Spot.ok_sim (bC.out.2.2 s hs) aK⟩
 clear b0 b1 b2 b3 b4
 obtain⟨b0,b1,b2,b3,b4⟩:=id s13.gotBox
 clear s13 aT aK aU aV bI aE bH aS bC
 have e13:¬ (1:Int)+(L3.length:Int)+(L4.length:Int)<0:=by omega
 have ne13:((1:Int)+(L3.length:Int)+(L4.length:Int) != 1+(L3.length:Int)+(L4.length:Int))=false:=by simp
 go_wp2_with fail
 refine bJ.out.mono ?_
 rintro e w14 ⟨rfl,aZ⟩
 have cU:=aZ.size
 have aW:Hid (Below w13.heap.size w13 w14):=aZ
 clear bJ b0 b1 b2 b3 b4 aZ
 go_wp2_with fail
 refine (cG.out w14 (qaA aF.out.below (by omega) aW.out)).mono ?_
 rintro e w16 ⟨bA,h0,h1,h2,h3,h4,N3,N4,rfl,bB,-,-,-,-⟩
 obtain⟨v0,v1,v2,ea,el,ec,ja,jl,jc,rfl,rfl,rfl,rfl,rfl⟩:=bB.shape
 have cV:=bA.size
 have aL:=((Below.refl w16.heap.size w16).alloc (Nat.le_refl _) (.cells #[.int .i64 v0,.int .i64 v1,.string v2,.slice ea el ec,.slice ja jl jc] 25)).alloc (by simp) (.cells #[.int .i64 fc,.int .i64 fa] 27)
 have aX:=(Box5.new w16 (.int .i64 v0) (.int .i64 v1) (.string v2) (.slice ea el ec) (.slice ja jl jc) 25).keep ((Below.refl _ _).alloc (Nat.le_refl _) (.cells #[.int .i64 fc,.int .i64 fa] 27))
 have aQ:((w16.alloc (.cells #[.int .i64 v0,.int .i64 v1,.string v2,.slice ea el ec,.slice ja jl jc] 25)).alloc (.cells #[.int .i64 fc,.int .i64 fa] 27)).heap[w16.heap.size+1]?=some (.cells #[.int .i64 fc,.int .i64 fa] 27 (0,0)):=by
  have:=heap_alloc_new (w16.alloc (.cells #[.int .i64 v0,.int .i64 v1,.string v2,.slice ea el ec,.slice ja jl jc] 25)) (.cells #[.int .i64 fc,.int .i64 fa] 27)
  rw[World.size_alloc]at this;exact this
 obtain⟨w17,aM⟩:∃ w17,w17=(w16.alloc (.cells #[.int .i64 v0,.int .i64 v1,.string v2,.slice ea el ec,.slice ja jl jc] 25)).alloc (.cells #[.int .i64 fc,.int .i64 fa] 27):=⟨_,rfl⟩
 have cW:w17.heap.size=w16.heap.size+2:=by rw[aM];simp
 rw[<- aM]at aL aX aQ
 have aD:=qaA (qaA aW.out (by omega) bA) (by omega) aL
 have s17:=aF.out.keep (by omega) aD
 obtain⟨a0,a1,a2,a3,a4⟩:=id s17.ansBox
 obtain⟨b0,b1,b2,b3,b4⟩:=id aX
 have bL:=(bB.step (fun b hb=>hb.2) aL).1
 have bM:Hid (Calls Tryz.prog 6 _ _ _):=qnH 25 _ _ k _ _ _ _ _ _ _ _ _ _ _ bL.tree s17.ans.tree (fun b hb=>by omega) (fun b hb=>by omega)
 have aY:Hid (Below w13.heap.size w13 _):=aD
 have bE:=Lib.hid aQ
 clear bA bB aL aD s17 bL aW aX aQ
 go_upto_region 16 with fail
 rw[<- aM]
 clear aM
 go_wp2_with fail
 refine bM.out.mono ?_
 rintro e w180 ⟨rfl,aC⟩
 have s180:=aF.out.keep (by omega) (qaA aY.out (by omega) aC)
 obtain⟨⟨fb0,fb1⟩,-⟩:=qbZ s180.ansF
 obtain⟨⟨fg0,fg1⟩,-⟩:=qbZ ((aC.block (w16.heap.size+1) (by omega)).trans bE.out)
 have aO:=Lib.hid aC
 have bN:=aC.size
 clear b0 b1 b2 b3 b4 s180 aC bE
 go_wp2_with fail
 refine (cH.out w180).mono ?_
 rintro e w18 ⟨rfl,aP⟩
 have bO:=qaA aO.out bN aP
 clear fb0 fb1 fg0 fg1 aO aP
 have aA:=qaA aY.out (by omega) bO
 have cX:=aA.size
 have s18:=aF.out.keep (by omega) aA
 have bP:Hid (Calls Tryz.prog 9 _ _ _):=qkY (25 - 1) u0 u1 u2 _ _ L3 L4 1 w18 (bK.out.1.below aA) (bK.out.2.1.below aA) (bK.out.2.2.1.below bK.out.2.2.2 aA) (by omega) (by omega)
 have bY:Hid (Below w.heap.size w w18):=s18.below
 obtain⟨b0,b1,b2,b3,b4⟩:=id s18.gotBox
 clear bM a0 a1 a2 a3 a4 bO aA s18 aY bK aF
 go_wp2_with fail
 refine bP.out.mono ?_
 rintro e w19 ⟨rfl,bR⟩
 have bZ:=qaA bY.out bY.out.size bR
 clear bP b0 b1 b2 b3 b4 bR bY
 go_wp2_with fail
 go_ret
 exact⟨rfl,bZ⟩
end Go.Proofs.YtelogmjfekhmpaaGreatDoor
