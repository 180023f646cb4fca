import Derived.Test.YtelogmjfekhmpaaGreatDoorB32
import Derived.Test.YtelogmjfekhmpaaGreatDoorB34
import Derived.Deep.RegionHeld
import Derived.Test.YtelogmjfekhmpaaGreatDoorB20
import Derived.Test.YtelogmjfekhmpaaGreatDoorB22
import Derived.Test.YtelogmjfekhmpaaGreatDoorB1
namespace Go.Proofs.YtelogmjfekhmpaaGreatDoor
open Go.RowKit Go.Proofs.Tryz
set_option maxRecDepth 100000
set_option maxHeartbeats 16000000
def qgD(M:Nat)(ws:List ByteArray):Except Er (T 25):=
 match qaI M ws 25 true 1 0 0 with
 | .error e=>.error e
 | .ok r=>if r.2.1=ws.length then (if lenN 25 r.1<=3000 then .ok r.1 else .error (1,0)) else .error (2,r.2.1)
def qhB(M R:Nat)(ws:List ByteArray)(w:World)(e:Ending)(w':World):Prop:=
 Near R w w' /\ ((∃(t:T 25)(c0 c1 c2 c3 c4:Value),qgD M ws=.ok t/\e=.returned (.agg #[c0,c1,c2,c3,c4])/\NodeIn (fun b=>w.heap.size<=b/\b<w'.heap.size) w' 25 t c0 c1 c2 c3 c4/\OwnN (fun b=>w.heap.size<=b/\b<w'.heap.size) w' 25 t c3 c4) ∨
  (∃code at',qgD M ws=.error (code,at')/\e=.panicked (qbT code at')))
theorem qqY{B:Nat}{w:World}(h:LaidU B w)(hB:B<=w.heap.size):TensIn w:=fun w2 h2=>h.1 w2 (h2.mono hB)
theorem qzZ {M B R bk:Nat} (hM:3000<=M) {wv:Value} {ws:List ByteArray} {w:World} (hL:LaidU B w) (hB:B<=R) (hR:Rdr w R bk wv ws 0 0) :
  Calls prog 35 #[.pointer (some ⟨R,0,none⟩)] w (qhB M R ws w):=by
 have aJ:=hR.lt
 have bK:=hR.few
 obtain⟨wa,wc,rfl,-,-⟩:=id hR.words
 obtain⟨W0,P⟩:∃W0,W0=w.alloc zeroN:=⟨_,rfl⟩
 have S:Below w.heap.size w W0:=by rw[P];exact (Below.refl _ _).alloc (Nat.le_refl _) _
 have aK:W0.heap.size=w.heap.size+1:=by rw[P];simp
 have aL:W0.heap[w.heap.size]?=some (.cells #[.int .i64 0,.int .i64 0,.string ⟨#[]⟩,.slice none 0 0,.slice none 0 0] 25 (0,0)):=by rw[P];exact heap_alloc_new w zeroN
 have aM:LaidU B W0:=hL.near (Near.of_below S) hB aJ
 have HN:=Lib.hid (xfD hM 25 B R bk _ ws 0 0 true 1 W0 aM hB (hR.same S) (by omega) (by rfl) (by omega))
 have C:Hid (qgD M ws=match qaI M ws 25 true 1 0 0 with|.error e=>.error e|.ok r=>if r.2.1=ws.length then (if lenN 25 r.1<=3000 then .ok r.1 else .error (1,0)) else .error (2,r.2.1)):=rfl
 have k:=Lib.hid (qbS M ws 25 true 1 0 0)
 generalize qaI M ws 25 true 1 0 0=res at *
 have HR:=Lib.hid hR
 have HL:=Lib.hid hL
 have T:=hidF hB
 have U:Hid (Near R w W0):=Near.of_below S
 have aC:=Lib.hid aL
 have D:=hidF aK
 clear hL hB hR S aM aL aK
 simp only[actI]at HN
 go_enter func35,ntmps35
 go_wp2_with fail
 rw[<- P]
 clear P
 refine HN.out.mono ?_
 rintro e d ⟨G,⟨t,a,c,c0,c1,c2,c3,c4,g,rfl,aA,Q,aH,-⟩|⟨aT,bE,g,rfl⟩⟩
 case inr=>exact⟨rfl,U.out.trans G,.inr ⟨aT,bE,by rw[C.out,g],rfl⟩⟩
 obtain⟨g1,-,g3,g4,-,-⟩:=k.out _ g
 dsimp only at g1 g3 g4
 obtain⟨H,I,J,u,v,x,y,z,A,rfl,rfl,rfl,rfl,rfl⟩:=aA.shape
 obtain⟨W2,o⟩:∃W2,W2=d.alloc (.cells #[.int .i64 H,.int .i64 I,.string J,.slice u v x,.slice y z A] 25):=⟨_,rfl⟩
 have l:Below d.heap.size d W2:=by rw[o];exact (Below.refl _ _).alloc (Nat.le_refl _) _
 have X:=aH.same l
 have aN:w.heap.size<d.heap.size:=by have:=G.size;have:=D.out;omega
 have aD:Near R w W2:=U.out.trans (G.trans (Near.of_below l))
 have aE:W2.heap[w.heap.size]?=some (.cells #[.int .i64 0,.int .i64 0,.string ⟨#[]⟩,.slice none 0 0,.slice none 0 0] 25 (0,0)):=(l.block w.heap.size aN).trans ((G.block w.heap.size (by rw[D.out];omega) (by omega)).trans aC.out)
 have K:W2.heap[d.heap.size]?=some (.cells #[.int .i64 H,.int .i64 I,.string J,.slice u v x,.slice y z A] 25 (0,0)):=by rw[o];exact heap_alloc_new d _
 have p:NodeIn (fun b=>w.heap.size+1<=b/\b<d.heap.size) W2 25 t (.int .i64 H) (.int .i64 I) (.string J) (.slice u v x) (.slice y z A):=aA.keep (fun b f=>l.block b f.2) (fun b f=>⟨by have:=D.out;omega,f.2⟩)
 have m:OwnN (fun b=>w.heap.size+1<=b/\b<d.heap.size) W2 25 t (.slice u v x) (.slice y z A):=Q.keep (fun b f=>l.block b f.2) (fun b f=>⟨by have:=D.out;omega,f.2⟩)
 have aO:W2.heap.size=d.heap.size+1:=by rw[o];simp
 obtain⟨⟨r0,r1,r2,-⟩,-⟩:=X.cells
 have E:=Lib.hid X
 have F:=Lib.hid aD
 have i:=Lib.hid g
 by_cases ha:a=ws.length
 case neg=>
  have aW:((a:Int)==(ws.length:Int))=false:=by simp;omega
  have aP:¬(a:Int)=(ws.length:Int):=by omega
  have HD:Hid (Calls prog 52 _ W2.drew _):=qcE (E.out.drewN 1) 2
  have HP:Hid (qhB M R ws w (.panicked (qbT 2 a)) W2.drew):=⟨qaJ F.out 1,.inr ⟨2,a,by rw[C.out,i.out];exact if_neg ha,rfl⟩⟩
  generalize ws.length=wl at *
  clear HN k HR HL T U aC D aA Q aH l X aD aE K p m aO g i C ha G g1 g3 g4 E F aN
  go_wp2_with fail
  rw[<- o]
  clear o
  go_region_dies
  all_goals (go_at_call 52;refine HD.out.mono ?_;rintro e w' ⟨rfl,rfl⟩;exact⟨rfl,HP.out⟩)
 have aW:((a:Int)==(ws.length:Int))=true:=by simp;omega
 have aP:(a:Int)=(ws.length:Int):=by omega
 have aQ:Hid (∀j,Calls prog 53 #[.pointer (some ⟨bk,0,none⟩),.agg #[.int .i64 H,.int .i64 I,.string J,.slice u v x,.slice y z A]] (W2.drewN j) fun e w'=>Below W2.heap.size W2 w' /\ ∃s,e=.returned (.string s)/\s.size=lenN 25 t):=fun j=>by
  have aR:Below W2.heap.size W2 (W2.drewN j):=⟨rfl,rfl,rfl,Nat.le_refl _,fun _ _=>rfl⟩
  refine (qzM 25 bk (fun b=>w.heap.size+1<=b/\b<d.heap.size) (W2.drewN j) t _ _ _ _ _ 1 (p.keep (fun _ _=>rfl) (fun _ h=>h)) (fun b f=>by show b<W2.heap.size;omega) (E.out.drewN j).book g1 (by omega) (qqY (HL.out.near (F.out.trans (Near.of_below aR)) T.out aJ) (by have:=T.out;have:=E.out.lt;show B<=W2.heap.size;omega))).mono ?_
  rintro e w' ⟨f,s,rfl,hs⟩
  exact⟨aR.trans f,s,rfl,hs⟩
 have L:Hid (∀W,Below W2.heap.size W2 W->lenN 25 t<=3000->qhB M R ws w (.returned (.agg #[.int .i64 H,.int .i64 I,.string J,.slice u v x,.slice y z A])) (put5 W w.heap.size 0 (.int .i64 H) (.int .i64 I) (.string J) (.slice u v x) (.slice y z A))):=fun W f h3=>by
  have q:∀b,b≠w.heap.size->(put5 W w.heap.size 0 (.int .i64 H) (.int .i64 I) (.string J) (.slice u v x) (.slice y z A)).heap[b]?=W.heap[b]?:=fun b f=>qaQ f
  have hz:(put5 W w.heap.size 0 (.int .i64 H) (.int .i64 I) (.string J) (.slice u v x) (.slice y z A)).heap.size=W.heap.size:=qbO
  have aF:Below 0 W (put5 W w.heap.size 0 (.int .i64 H) (.int .i64 I) (.string J) (.slice u v x) (.slice y z A)):=qaX (Below.refl 0 W) (Nat.zero_le _)
  have N:Near R w W:=F.out.trans (Near.of_below f)
  have bM:=f.size
  refine⟨⟨aF.os.trans N.os,aF.tape.trans N.tape,aF.output.trans N.output,by rw[hz];exact N.size,fun b h1 h2=>(q b (by omega)).trans (N.block b h1 h2)⟩,.inl ⟨t,_,_,_,_,_,by rw[C.out,i.out];dsimp only;rw[if_pos ha,if_pos h3],rfl,p.keep (fun b h=>(q b (by omega)).trans (f.block b (by omega))) (fun b h=>⟨by omega,by rw[hz];omega⟩),m.keep (fun b h=>(q b (by omega)).trans (f.block b (by omega))) (fun b h=>⟨by omega,by rw[hz];omega⟩)⟩⟩
 have n:Hid (∀W,Below W2.heap.size W2 W->¬lenN 25 t<=3000->qhB M R ws w (.panicked (qbT 1 0)) W):=fun W f h3=>⟨F.out.trans (Near.of_below f),.inr ⟨1,0,by rw[C.out,i.out];dsimp only;rw[if_pos ha,if_neg h3],rfl⟩⟩
 have O:Hid (∀W,Below W2.heap.size W2 W->(W.cell? ⟨R,0,none⟩=some (.pointer (some ⟨bk,0,none⟩))/\W.cell? ⟨d.heap.size,0,none⟩=some (.int .i64 H)/\W.cell? ⟨d.heap.size,1,none⟩=some (.int .i64 I)/\W.cell? ⟨d.heap.size,2,none⟩=some (.string J)/\W.cell? ⟨d.heap.size,3,none⟩=some (.slice u v x)/\W.cell? ⟨d.heap.size,4,none⟩=some (.slice y z A))/\W.heap[w.heap.size]?=some (.cells #[.int .i64 0,.int .i64 0,.string ⟨#[]⟩,.slice none 0 0,.slice none 0 0] 25 (0,0))):=fun W f=>by
  obtain⟨⟨y0,y1,y2,y3,y4⟩,-⟩:=qaC ((f.block d.heap.size (by omega)).trans K)
  exact⟨⟨(E.out.same f).cells.1.1,y0,y1,y2,y3,y4⟩,(f.block w.heap.size (by omega)).trans aE⟩
 clear HN k HR HL T U aC D aA Q aH l X aD aE K p m aO g i C G g1 g3 g4 E F
 generalize ws.length=wl at *
 go_wp2_with fail
 rw[<- o]
 clear o
 go_quiet (first|(go_at_call 52;refine Calls.quiet_of_same (qbK _ _ _)))
 go_wp2_with fail
 obtain⟨V,hV⟩:∃V,V=W2.drewN nq:=⟨_,rfl⟩
 have aS:Below W2.heap.size W2 V:=by rw[hV];exact⟨rfl,rfl,rfl,Nat.le_refl _,fun _ _=>rfl⟩
 have aG:Hid (Calls prog 53 #[.pointer (some ⟨bk,0,none⟩),.agg #[.int .i64 H,.int .i64 I,.string J,.slice u v x,.slice y z A]] V.drew fun e w'=>(∃s,e=.returned (.string s)/\s.size=lenN 25 t)/\Below W2.heap.size W2 w' /\ (w'.cell? ⟨R,0,none⟩=some (.pointer (some ⟨bk,0,none⟩))/\w'.cell? ⟨d.heap.size,0,none⟩=some (.int .i64 H)/\w'.cell? ⟨d.heap.size,1,none⟩=some (.int .i64 I)/\w'.cell? ⟨d.heap.size,2,none⟩=some (.string J)/\w'.cell? ⟨d.heap.size,3,none⟩=some (.slice u v x)/\w'.cell? ⟨d.heap.size,4,none⟩=some (.slice y z A))):=by
  have h1:=aQ.out (nq+1)
  rw[hV]
  refine h1.mono ?_
  rintro e w' ⟨f,s,rfl,hs⟩
  exact⟨⟨s,rfl,hs⟩,f,(O.out w' f).1⟩
 obtain⟨⟨p0,y0,y1,y2,y3,y4⟩,-⟩:=O.out V aS
 rw[<- hV]
 clear hV aQ aS r0 r1 r2
 go_region_held (fun w'=>w'.cell? ⟨R,0,none⟩=some (.pointer (some ⟨bk,0,none⟩))/\w'.cell? ⟨d.heap.size,0,none⟩=some (.int .i64 H)/\w'.cell? ⟨d.heap.size,1,none⟩=some (.int .i64 I)/\w'.cell? ⟨d.heap.size,2,none⟩=some (.string J)/\w'.cell? ⟨d.heap.size,3,none⟩=some (.slice u v x)/\w'.cell? ⟨d.heap.size,4,none⟩=some (.slice y z A)) (first|with_reducible assumption|go_keep) (first|(go_at_call 53;refine aG.out.mono ?_;rintro e w4 ⟨⟨s,rfl,hs⟩,aB,aU⟩))
 all_goals
  have Y:=hidF hs
  have Z:=Lib.hid aB
  obtain⟨⟨aV,bF,bG,bH,bI,bJ⟩,aI⟩:=O.out w4 aB
  obtain⟨⟨z0,z1,z2,z3,z4⟩,zf⟩:=qaC aI
  have aX:=zf 0
  have aY:=zf 1
  have aZ:=zf 2
  have bA:=zf 3
  have bB:=zf 4
  have bN:¬w.heap.size=d.heap.size:=by omega
  have bL:¬d.heap.size=w.heap.size:=by omega
  by_cases h3:lenN 25 t<=3000
  ·have bC:¬(3000:Int)<(s.size:Int):=by have:=Y.out;omega
   have bD:¬(3000:Int)<(lenN 25 t:Int):=by omega
   have HE:=Lib.hid (L.out w4 Z.out h3)
   clear hs aB aU p0 y0 y1 y2 y3 y4 L n O aG h3 zf aI Y Z aV
   go_wp2_with fail
   refine bodyPost_ret (by simp[results,results35,go_sem,z0,z1,z2,z3,z4];rfl) rfl ?_
   exact HE.out
  ·have bC:(3000:Int)<(s.size:Int):=by have:=Y.out;omega
   have bD:(3000:Int)<(lenN 25 t:Int):=by omega
   have HE:=Lib.hid (n.out w4 Z.out h3)
   clear hs aB aU p0 y0 y1 y2 y3 y4 L n O aG h3 zf aI Y Z aV z0 z1 z2 z3 z4 aX aY aZ bA bB bF bG bH bI bJ
   go_wp2_with fail
   exact⟨rfl,HE.out⟩
theorem Tryz.assertN_yes(x y:Int)(w:World):(Instr.typeAssert (.iface 61 (.agg #[.int .i64 x,.int .i64 y])) 20 61 true).run prog w=.ok (.tuple #[.agg #[.int .i64 x,.int .i64 y],.bool true]) w:=by kernel_rfl
theorem qnZ (F:Nat) (code:Int) (a:Nat) (w:World) (h0:w.heap[F]?=some (.cells #[.int .i64 0,.int .i64 0] 27 (0,0))) :
  CallsD prog 33 #[.pointer (some ⟨F,0,none⟩)] (.panicking (qbT code a)) w fun e u' w'=>
   e=.returned (.tuple #[])/\u'=.panicking [{ v:=.iface 61 (.agg #[.int .i64 code,.int .i64 (a:Int)]),recovered:=true }]/\w'=((w.setCell ⟨F,0,none⟩ (.int .i64 code)).setCell ⟨F,1,none⟩ (.int .i64 (a:Int))).alloc (.cells #[.int .i64 code,.int .i64 (a:Int)] 61):=by
 have c:=Tryz.assertN_yes
 have f:F<w.heap.size:=(Array.getElem?_eq_some_iff.1 h0).1
 have g:w.cell? ⟨F,0,none⟩=some (.int .i64 0):=by simp[World.cell?,h0]
 have f1:w.cell? ⟨F,1,none⟩=some (.int .i64 0):=by simp[World.cell?,h0]
 have h:w.frozen? ⟨F,0,none⟩=false:=by simp[World.frozen?,h0]
 have i:w.frozen? ⟨F,1,none⟩=false:=by simp[World.frozen?,h0]
 have d:¬w.heap.size=F:=by omega
 have b:¬F=w.heap.size:=by omega
 clear h0
 unfold qbT
 refine callsD_of_wpS func33 rfl fun c₀ cs hu=>?_
 apply wpS_seq
 apply wpS_region
 simp[wpOpsS,go_sem,recoverD,hu,ntmps33,Exit.thenS]
 refine wpS_of_wp ?_
 go_wp2_with fail
 exact⟨rfl,_,rfl,.tuple #[],by simp[results,results33],rfl,rfl,rfl⟩
theorem qoA (F:Nat) (w:World) :
  CallsD prog 33 #[.pointer (some ⟨F,0,none⟩)] .returning w fun e u' w'=>e=.returned (.tuple #[])/\u'=.returning/\w'=w:=by
 refine callsD_of_wpS func33 rfl fun c₀ cs hu=>?_
 apply wpS_seq
 apply wpS_region
 simp[wpOpsS,go_sem,recoverD,hu,ntmps33,Exit.thenS]
 refine wpS_of_wp ?_
 go_wp2_with fail
 exact⟨rfl,_,by rw[<- hu],.tuple #[],by simp[results,results33],rfl,rfl,rfl⟩
def qvP(text:ByteArray)(ws:List ByteArray):Prop:=∀W:World,Calls prog 34 #[.string text] W fun e w'=>∃R bk wv,e=.returned (.pointer (some ⟨R,0,none⟩))/\W.heap.size<=R/\Below W.heap.size W w' /\ Rdr w' R bk wv ws 0 0
def qfL(r:Except Er (T 25))(w:World)(e:Ending)(w':World):Prop:=
 Below w.heap.size w w' /\ ((∃(t:T 25)(c0 c1 c2 c3 c4:Value),r=.ok t/\e=.returned (.tuple #[.agg #[c0,c1,c2,c3,c4],.agg #[.int .i64 0,.int .i64 0]])/\NodeIn (fun b=>w.heap.size<=b/\b<w'.heap.size) w' 25 t c0 c1 c2 c3 c4/\OwnN (fun b=>w.heap.size<=b/\b<w'.heap.size) w' 25 t c3 c4) ∨
  (∃(code:Int)(at':Nat),r=.error (code,at')/\e=.returned (.tuple #[.agg #[.int .i64 0,.int .i64 0,.string ⟨#[]⟩,.slice none 0 0,.slice none 0 0],.agg #[.int .i64 code,.int .i64 (at':Int)]])))
theorem qbY {w:World} {N:Nat} {x y:Value} (h:w.heap[N]?=some (.cells #[x,y] 27 (0,0))) :
  (w.cell? ⟨N,0,none⟩=some x/\w.cell? ⟨N,1,none⟩=some y)/\w.frozen? ⟨N,0,none⟩=false/\w.frozen? ⟨N,1,none⟩=false:=by
 refine⟨⟨?_,?_⟩,?_,?_⟩<;>simp[World.cell?,World.frozen?,h]
theorem qqZ {w2 W:World} {A F:Nat} {code:Int} {at':Nat} {o:Obj} (hAF:A≠F) (hA:w2.heap[A]?=some (.cells #[.int .i64 0,.int .i64 0,.string ⟨#[]⟩,.slice none 0 0,.slice none 0 0] 25 (0,0))) (hF:w2.heap[F]?=some (.cells #[.int .i64 0,.int .i64 0] 27 (0,0)))
  (hW:W=((w2.setCell ⟨F,0,none⟩ (.int .i64 code)).setCell ⟨F,1,none⟩ (.int .i64 (at':Int))).alloc o) :
  (W.cell? ⟨A,0,none⟩=some (.int .i64 0)/\W.cell? ⟨A,1,none⟩=some (.int .i64 0)/\W.cell? ⟨A,2,none⟩=some (.string ⟨#[]⟩)/\W.cell? ⟨A,3,none⟩=some (.slice none 0 0)/\W.cell? ⟨A,4,none⟩=some (.slice none 0 0))/\W.cell? ⟨F,0,none⟩=some (.int .i64 code)/\W.cell? ⟨F,1,none⟩=some (.int .i64 (at':Int)):=by
 have c:=(Array.getElem?_eq_some_iff.1 hA).1
 have d:=(Array.getElem?_eq_some_iff.1 hF).1
 have a:W.heap[A]?=some (.cells #[.int .i64 0,.int .i64 0,.string ⟨#[]⟩,.slice none 0 0,.slice none 0 0] 25 (0,0)):=by
  rw[hW,Below.heap_alloc _ _ _ (by simp;omega),Below.heap_setCell _ _ _ _ hAF,Below.heap_setCell _ _ _ _ hAF]
  exact hA
 have b:W.heap[F]?=some (.cells #[.int .i64 code,.int .i64 (at':Int)] 27 (0,0)):=by
  rw[hW,Below.heap_alloc _ _ _ (by simp;omega)]
  simp[World.setCell,Array.getElem?_modify,hF]
 exact⟨(qaC a).1,(qbY b).1⟩
theorem qoB {M B:Nat} (hM:3000<=M) {text:ByteArray} {ws:List ByteArray} (hN:qvP text ws) (w:World) (hL:LaidU B w) (hB:B<=w.heap.size) :
  Calls prog 14 #[.string text] w (qfL (qgD M ws) w):=by
 obtain⟨W,y⟩:∃W,W=(w.alloc zeroN).alloc (.cells #[.int .i64 0,.int .i64 0] 27):=⟨_,rfl⟩
 have hs:W.heap.size=w.heap.size+2:=by rw[y];simp
 have l:Below w.heap.size w W:=by rw[y];exact ((Below.refl _ _).alloc (Nat.le_refl _) _).alloc (by simp) _
 have hA:W.heap[w.heap.size]?=some (.cells #[.int .i64 0,.int .i64 0,.string ⟨#[]⟩,.slice none 0 0,.slice none 0 0] 25 (0,0)):=by rw[y];exact (Below.heap_alloc _ _ _ (by simp)).trans (heap_alloc_new w zeroN)
 have hF:W.heap[w.heap.size+1]?=some (.cells #[.int .i64 0,.int .i64 0] 27 (0,0)):=by
  have:=heap_alloc_new (w.alloc zeroN) (.cells #[.int .i64 0,.int .i64 0] 27)
  rw[show (w.alloc zeroN).heap.size=w.heap.size+1 by simp]at this
  rw[y];exact this
 have o:=Lib.hid (hN W)
 have K:Hid (∀(n:World)(R X:Nat)(Y:Value),W.heap.size<=R->Below W.heap.size W n->Rdr n R X Y ws 0 0->Calls prog 35 #[.pointer (some ⟨R,0,none⟩)] n (qhB M R ws n)):=fun n R X Y h1 h2 h3=>by
  have m:Below w.heap.size w n:=l.trans (h2.mono l.size)
  refine qzZ hM (B:=B) ?_ (by have:=l.size;omega) h3
  exact hL.step (m.mono hB)
 have j:=Lib.hid l
 have S:=Lib.hid hA
 have T:=Lib.hid hF
 clear hN hL hB l hA hF
 go_enter_defers func14,ntmps14
 go_wp2_with fail
 rw[<- y]
 clear y
 refine o.out.mono ?_
 rintro e n ⟨R,X,Y,rfl,hR,u,N⟩
 have Z:=Lib.hid (K.out n R X Y hR u N)
 have c:=Lib.hid u
 clear o K u N
 go_wp2_with fail
 refine Z.out.mono ?_
 rintro e w2 ⟨d,⟨t,c0,c1,c2,c3,c4,h,rfl,x,r⟩|⟨a,g,h,rfl⟩⟩
 ·have aA:=c.out.size
  have aB:=d.size
  obtain⟨z,A,C,D,E,F,G,H,I,rfl,rfl,rfl,rfl,rfl⟩:=x.shape
  have k:=(d.block w.heap.size (by omega) (by omega)).trans ((c.out.block w.heap.size (by omega)).trans S.out)
  have i:=(d.block (w.heap.size+1) (by omega) (by omega)).trans ((c.out.block (w.heap.size+1) (by omega)).trans T.out)
  obtain⟨⟨z0,O,z2,z3,z4⟩,J⟩:=qaC k
  obtain⟨⟨P,f1⟩,g0,g1⟩:=qbY i
  have aF:=J 0
  have aG:=J 1
  have aH:=J 2
  have aI:=J 3
  have aJ:=J 4
  have U:Hid (qfL (qgD M ws) w (.returned (.tuple #[.agg #[.int .i64 z,.int .i64 A,.string C,.slice D E F,.slice G H I],.agg #[.int .i64 0,.int .i64 0]])) (((put5 w2 w.heap.size 0 (.int .i64 z) (.int .i64 A) (.string C) (.slice D E F) (.slice G H I)).setCell ⟨w.heap.size+1,0,none⟩ (.int .i64 0)).setCell ⟨w.heap.size+1,1,none⟩ (.int .i64 0))):=by
   have s:Below w.heap.size w w2:=j.out.trans ((c.out.trans (d.below hR (by omega))).mono j.out.size)
   have aC:Below w.heap.size w (((put5 w2 w.heap.size 0 (.int .i64 z) (.int .i64 A) (.string C) (.slice D E F) (.slice G H I)).setCell ⟨w.heap.size+1,0,none⟩ (.int .i64 0)).setCell ⟨w.heap.size+1,1,none⟩ (.int .i64 0)):=((qaX s (Nat.le_refl _)).setCell (by show w.heap.size<=w.heap.size+1;omega) _).setCell (by show w.heap.size<=w.heap.size+1;omega) _
   have L:(((put5 w2 w.heap.size 0 (.int .i64 z) (.int .i64 A) (.string C) (.slice D E F) (.slice G H I)).setCell ⟨w.heap.size+1,0,none⟩ (.int .i64 0)).setCell ⟨w.heap.size+1,1,none⟩ (.int .i64 0)).heap.size=w2.heap.size:=by
    rw[show ∀(V:World)(p:Addr)(v:Value),(V.setCell p v).heap.size=V.heap.size from fun V p v=>by simp,show ∀(V:World)(p:Addr)(v:Value),(V.setCell p v).heap.size=V.heap.size from fun V p v=>by simp,qbO]
   have q:∀b,n.heap.size<=b->(((put5 w2 w.heap.size 0 (.int .i64 z) (.int .i64 A) (.string C) (.slice D E F) (.slice G H I)).setCell ⟨w.heap.size+1,0,none⟩ (.int .i64 0)).setCell ⟨w.heap.size+1,1,none⟩ (.int .i64 0)).heap[b]?=w2.heap[b]?:=fun b m=>by
    rw[Below.heap_setCell _ _ _ _ (by show b≠w.heap.size+1;omega),Below.heap_setCell _ _ _ _ (by show b≠w.heap.size+1;omega),qaQ (by omega)]
   exact⟨aC,.inl ⟨t,_,_,_,_,_,h,rfl,x.keep (fun b m=>q b m.1) (fun b m=>⟨by omega,by rw[L];exact m.2⟩),r.keep (fun b m=>q b m.1) (fun b m=>⟨by omega,by rw[L];exact m.2⟩)⟩⟩
  clear Z x r h d k i c j S T J
  go_wp2_with fail
  refine leaves_cons (f:=33) (args:=#[.pointer (some ⟨w.heap.size+1,0,none⟩)]) (by simp) (by simp[go_sem]) ?_
  refine (qoA _ _).mono ?_
  rintro e u' Q ⟨rfl,rfl,rfl⟩
  exact⟨.tuple #[.agg #[.int .i64 z,.int .i64 A,.string C,.slice D E F,.slice G H I],.agg #[.int .i64 0,.int .i64 0]],by simp[results,results14,go_sem,z0,O,z2,z3,z4,P,f1],U.out⟩
 ·have aA:=c.out.size
  have aB:=d.size
  have k:=(d.block w.heap.size (by omega) (by omega)).trans ((c.out.block w.heap.size (by omega)).trans S.out)
  have i:=(d.block (w.heap.size+1) (by omega) (by omega)).trans ((c.out.block (w.heap.size+1) (by omega)).trans T.out)
  have aD:=Lib.hid (qnZ (w.heap.size+1) a g w2 i)
  obtain⟨⟨z0,O,z2,z3,z4⟩,-⟩:=qaC k
  obtain⟨⟨P,f1⟩,g0,g1⟩:=qbY i
  have U:Hid (qfL (qgD M ws) w (.returned (.tuple #[.agg #[.int .i64 0,.int .i64 0,.string ⟨#[]⟩,.slice none 0 0,.slice none 0 0],.agg #[.int .i64 a,.int .i64 (g:Int)]])) (((w2.setCell ⟨w.heap.size+1,0,none⟩ (.int .i64 a)).setCell ⟨w.heap.size+1,1,none⟩ (.int .i64 (g:Int))).alloc (.cells #[.int .i64 a,.int .i64 (g:Int)] 61))):=by
   have s:Below w.heap.size w w2:=j.out.trans ((c.out.trans (d.below hR (by omega))).mono j.out.size)
   exact⟨((s.setCell (by show w.heap.size<=w.heap.size+1;omega) _).setCell (by show w.heap.size<=w.heap.size+1;omega) _).alloc (by show w.heap.size<=(((w2.setCell ⟨w.heap.size+1,0,none⟩ (.int .i64 a)).setCell ⟨w.heap.size+1,1,none⟩ (.int .i64 (g:Int)))).heap.size;simp;omega) _,.inr ⟨a,g,h,rfl⟩⟩
  have aE:Hid (∀Wf,Wf=((w2.setCell ⟨w.heap.size+1,0,none⟩ (.int .i64 a)).setCell ⟨w.heap.size+1,1,none⟩ (.int .i64 (g:Int))).alloc (.cells #[.int .i64 a,.int .i64 (g:Int)] 61)->_):=fun Wf hWf=>qqZ (show w.heap.size≠w.heap.size+1 by omega) k i hWf
  clear Z d h k i c j S T z0 O z2 z3 z4 P f1 g0 g1
  refine leaves_cons (f:=33) (args:=#[.pointer (some ⟨w.heap.size+1,0,none⟩)]) (by simp) (by simp[go_sem]) ?_
  refine aD.out.mono ?_
  rintro e u' Q ⟨rfl,rfl,hw⟩
  rw[<- hw]at U
  obtain⟨⟨z0,O,z2,z3,z4⟩,P,f1⟩:=aE.out Q hw
  clear hw
  exact⟨.tuple #[.agg #[.int .i64 0,.int .i64 0,.string ⟨#[]⟩,.slice none 0 0,.slice none 0 0],.agg #[.int .i64 a,.int .i64 (g:Int)]],by simp[results,results14,go_sem,z0,O,z2,z3,z4,P,f1],U.out⟩
def liftR(M:Nat)(text:ByteArray)(ws:List ByteArray):Except Er (T 25):=if text.size<=3000 then qgD M ws else .error (1,0)
theorem qjO {w w1:World} {A:Nat} {c0 c1 c2 c3 c4 x y:Value} (hb:Below A w w1) :
  Below A w (((put5 w1 A 0 c0 c1 c2 c3 c4).setCell ⟨A+1,0,none⟩ x).setCell ⟨A+1,1,none⟩ y)/\(((put5 w1 A 0 c0 c1 c2 c3 c4).setCell ⟨A+1,0,none⟩ x).setCell ⟨A+1,1,none⟩ y).heap.size=w1.heap.size /\
  ∀b,A+2<=b->(((put5 w1 A 0 c0 c1 c2 c3 c4).setCell ⟨A+1,0,none⟩ x).setCell ⟨A+1,1,none⟩ y).heap[b]?=w1.heap[b]?:=by
 refine⟨((qaX hb (Nat.le_refl _)).setCell (by show A<=A+1;omega) _).setCell (by show A<=A+1;omega) _,?_,fun b hb=>?_⟩
 ·rw[show ∀(V:World)(p:Addr)(v:Value),(V.setCell p v).heap.size=V.heap.size from fun V p v=>by simp,show ∀(V:World)(p:Addr)(v:Value),(V.setCell p v).heap.size=V.heap.size from fun V p v=>by simp,qbO]
 ·rw[Below.heap_setCell _ _ _ _ (by show b≠A+1;omega),Below.heap_setCell _ _ _ _ (by show b≠A+1;omega),qaQ (by omega)]
theorem qrA {M B:Nat} (hM:3000<=M) {text:ByteArray} {ws:List ByteArray} (hsz:text.size<=1048576) (hN:text.size<=3000->qvP text ws) (w:World) (hL:LaidU B w) (hB:B<=w.heap.size) :
  Calls prog 5 #[.string text] w (qfL (liftR M text ws) w):=by
 obtain⟨W,l⟩:∃W,W=(w.alloc zeroN).alloc (.cells #[.int .i64 0,.int .i64 0] 27):=⟨_,rfl⟩
 have R:W.heap.size=w.heap.size+2:=by rw[l];simp
 have g:Below w.heap.size w W:=by rw[l];exact ((Below.refl _ _).alloc (Nat.le_refl _) _).alloc (by simp) _
 have F:W.heap[w.heap.size]?=some (.cells #[.int .i64 0,.int .i64 0,.string ⟨#[]⟩,.slice none 0 0,.slice none 0 0] 25 (0,0)):=by rw[l];exact (Below.heap_alloc _ _ _ (by simp)).trans (heap_alloc_new w zeroN)
 have G:W.heap[w.heap.size+1]?=some (.cells #[.int .i64 0,.int .i64 0] 27 (0,0)):=by
  have:=heap_alloc_new (w.alloc zeroN) (.cells #[.int .i64 0,.int .i64 0] 27)
  rw[show (w.alloc zeroN).heap.size=w.heap.size+1 by simp]at this
  rw[l];exact this
 by_cases h3:text.size<=3000
 case neg=>
  have H:(3000:Int)<(text.size:Int):=by omega
  have p:Hid (qfL (liftR M text ws) w (.returned (.tuple #[.agg #[.int .i64 0,.int .i64 0,.string ⟨#[]⟩,.slice none 0 0,.slice none 0 0],.agg #[.int .i64 1,.int .i64 0]])) ((w.alloc zeroN).alloc (.cells #[.int .i64 1,.int .i64 0] 27))):=⟨((Below.refl _ _).alloc (Nat.le_refl _) _).alloc (by simp) _,.inr ⟨1,0,by unfold liftR;rw[if_neg h3],rfl⟩⟩
  clear hN hL h3 F G g R l
  go_enter func5,ntmps5
  go_wp2_with fail
  refine bodyPost_ret (v:=.tuple #[.agg #[.int .i64 0,.int .i64 0,.string ⟨#[]⟩,.slice none 0 0,.slice none 0 0],.agg #[.int .i64 1,.int .i64 0]]) (by simp[results,results5,go_sem]) rfl ?_
  exact p.out
 have H:¬(3000:Int)<(text.size:Int):=by omega
 have I:=Lib.hid (qoB hM (hN h3) W (hL.step (g.mono hB)) (by omega))
 have h:Hid (liftR M text ws=qgD M ws):=by show _=_;unfold liftR;rw[if_pos h3]
 have i:=Lib.hid g
 have J:=Lib.hid F
 have K:=Lib.hid G
 clear hN hL hB g F G h3
 go_enter func5,ntmps5
 go_wp2_with fail
 rw[<- l]
 clear l
 refine I.out.mono ?_
 rintro e L ⟨d,m⟩
 have S:=d.size
 have j:Below w.heap.size w L:=i.out.trans (d.mono i.out.size)
 obtain⟨⟨z0,P,z2,z3,z4⟩,n⟩:=qaC ((d.block w.heap.size (by omega)).trans J.out)
 obtain⟨⟨Q,f1⟩,Z,g1⟩:=qbY ((d.block (w.heap.size+1) (by omega)).trans K.out)
 have T:=n 0
 have U:=n 1
 have V:=n 2
 have X:=n 3
 have Y:=n 4
 rcases m with ⟨t,c0,c1,c2,c3,c4,a,rfl,o,k⟩|⟨c,f,a,rfl⟩
 ·obtain⟨q,r,s,u,z,A,C,D,E,rfl,rfl,rfl,rfl,rfl⟩:=o.shape
  have p:Hid (qfL (liftR M text ws) w (.returned (.tuple #[.agg #[.int .i64 q,.int .i64 r,.string s,.slice u z A,.slice C D E],.agg #[.int .i64 0,.int .i64 0]])) (((put5 L w.heap.size 0 (.int .i64 q) (.int .i64 r) (.string s) (.slice u z A) (.slice C D E)).setCell ⟨w.heap.size+1,0,none⟩ (.int .i64 0)).setCell ⟨w.heap.size+1,1,none⟩ (.int .i64 0))):=by
   obtain⟨N,O,k3⟩:=qjO (c0:=.int .i64 q) (c1:=.int .i64 r) (c2:=.string s) (c3:=.slice u z A) (c4:=.slice C D E) (x:=.int .i64 0) (y:=.int .i64 0) j
   exact⟨N,.inl ⟨t,_,_,_,_,_,by rw[h.out];exact a,rfl,o.keep (fun b hb=>k3 b (by omega)) (fun b hb=>⟨by omega,by rw[O];exact hb.2⟩),k.keep (fun b hb=>k3 b (by omega)) (fun b hb=>⟨by omega,by rw[O];exact hb.2⟩)⟩⟩
  clear I o k a d j i J K n h
  go_wp2_with fail
  refine bodyPost_ret (v:=.tuple #[.agg #[.int .i64 q,.int .i64 r,.string s,.slice u z A,.slice C D E],.agg #[.int .i64 0,.int .i64 0]]) (by simp[results,results5,go_sem,z0,P,z2,z3,z4,Q,f1]) rfl ?_
  exact p.out
 ·have p:Hid (qfL (liftR M text ws) w (.returned (.tuple #[.agg #[.int .i64 0,.int .i64 0,.string ⟨#[]⟩,.slice none 0 0,.slice none 0 0],.agg #[.int .i64 c,.int .i64 (f:Int)]])) (((put5 L w.heap.size 0 (.int .i64 0) (.int .i64 0) (.string ⟨#[]⟩) (.slice none 0 0) (.slice none 0 0)).setCell ⟨w.heap.size+1,0,none⟩ (.int .i64 c)).setCell ⟨w.heap.size+1,1,none⟩ (.int .i64 (f:Int)))):=by
   obtain⟨N,O,k3⟩:=qjO (c0:=.int .i64 0) (c1:=.int .i64 0) (c2:=.string ⟨#[]⟩) (c3:=.slice none 0 0) (c4:=.slice none 0 0) (x:=.int .i64 c) (y:=.int .i64 (f:Int)) j
   exact⟨N,.inr ⟨c,f,by rw[h.out];exact a,rfl⟩⟩
  clear I a d j i J K n h
  go_wp2_with fail
  refine bodyPost_ret (v:=.tuple #[.agg #[.int .i64 0,.int .i64 0,.string ⟨#[]⟩,.slice none 0 0,.slice none 0 0],.agg #[.int .i64 c,.int .i64 (f:Int)]]) (by simp[results,results5,go_sem,z0,P,z2,z3,z4,Q,f1]) rfl ?_
  exact p.out
theorem Box5.eqbN{w w':World}{N:Nat}{a b c d e:Value}(h:Box5 w N a b c d e)(hb:w'.heap[N]?=w.heap[N]?):Box5 w' N a b c d e:=
 ⟨(World.cell?_of_block (w:=w) (w':=w') (a:=⟨N,0,none⟩) hb).trans h.c0,(World.cell?_of_block (w:=w) (w':=w') (a:=⟨N,1,none⟩) hb).trans h.c1,(World.cell?_of_block (w:=w) (w':=w') (a:=⟨N,2,none⟩) hb).trans h.c2,
  (World.cell?_of_block (w:=w) (w':=w') (a:=⟨N,3,none⟩) hb).trans h.c3,(World.cell?_of_block (w:=w) (w':=w') (a:=⟨N,4,none⟩) hb).trans h.c4⟩
theorem qtU(x y:Int)(w:World):Calls prog 7 #[.agg #[.int .i64 x,.int .i64 y],.agg #[.int .i64 x,.int .i64 y]] w fun e w'=>e=.returned (.bool true)/\Below w.heap.size w w':=by
 have a:=Lib.hid (((Below.refl w.heap.size w).alloc (Nat.le_refl _) (.cells #[.int .i64 x,.int .i64 y] 27)).alloc (by simp) (.cells #[.int .i64 x,.int .i64 y] 27))
 have b:(x != x)=false:=by simp
 have c:(y != y)=false:=by simp
 go_enter func7,ntmps7
 go_wp2_with fail
 go_ret
 exact⟨rfl,a.out⟩
structure SitN(k:T 25)(fc fa:Int)(P:Nat->Prop)(A G:Nat)(p0 p1 p2 p3 p4 g0 g1 g2 g3 g4:Value)(w u:World):Prop where
 below:Below w.heap.size w u
 ansBox:Box5 u A p0 p1 p2 p3 p4
 ansF:u.heap[A+1]?=some (.cells #[.int .i64 fc,.int .i64 fa] 27 (0,0))
 ans:NodeIn P u 25 k p0 p1 p2 p3 p4
 ansB:∀b,P b->b<A
 gotBox:Box5 u G g0 g1 g2 g3 g4
 ag:A+1<G
 gu:G<u.heap.size
theorem SitN.step {k:T 25} {fc fa:Int} {P:Nat->Prop} {A G:Nat} {p0 p1 p2 p3 p4 g0 g1 g2 g3 g4:Value} {w u u':World} (h:SitN k fc fa P A G p0 p1 p2 p3 p4 g0 g1 g2 g3 g4 w u) {Z:Nat->Prop} (hb:Below w.heap.size w u') (hz:u.heap.size<=u'.heap.size)
  (hs:∀b:Nat,b<u.heap.size->¬Z b->u'.heap[b]?=u.heap[b]?) (hZ:∀b,Z b->A+1<b/\b≠G):SitN k fc fa P A G p0 p1 p2 p3 p4 g0 g1 g2 g3 g4 w u':=by
 have ag:=h.ag
 have gu:=h.gu
 have q:∀b,b<=A+1->u'.heap[b]?=u.heap[b]?:=fun b hb=>hs b (by omega) (fun hz=>by have:=hZ b hz;omega)
 exact⟨hb,h.ansBox.eqbN (q A (by omega)),(q (A+1) (Nat.le_refl _)).trans h.ansF,h.ans.keep (fun b hb=>q b (by have:=h.ansB b hb;omega)) (fun _ h=>h),h.ansB,
  h.gotBox.eqbN (hs G gu (fun hz=>(hZ G hz).2 rfl)),ag,by omega⟩
theorem SitN.keep {k:T 25} {fc fa:Int} {P:Nat->Prop} {A G:Nat} {p0 p1 p2 p3 p4 g0 g1 g2 g3 g4:Value} {w u u':World} (h:SitN k fc fa P A G p0 p1 p2 p3 p4 g0 g1 g2 g3 g4 w u) (hw:w.heap.size<=u.heap.size) (hb:Below u.heap.size u u') :
  SitN k fc fa P A G p0 p1 p2 p3 p4 g0 g1 g2 g3 g4 w u':=h.step (Z:=fun _=>False) (qaA h.below hw hb) hb.size (fun b hb' _=>hb.block b hb') (fun _ h=>h.elim)
def qtV(s:ByteArray)(k:T 25)(fc fa:Int):Prop:=∀w,Calls prog 4 #[.string s] w fun e w'=>Below w.heap.size w w' /\ ∃c0 c1 c2 c3 c4,e=.returned (.tuple #[.agg #[c0,c1,c2,c3,c4],.agg #[.int .i64 fc,.int .i64 fa]])/\NodeIn (fun b=>w.heap.size<=b/\b<w'.heap.size) w' 25 k c0 c1 c2 c3 c4
def qtW(B:Nat)(wb:World)(s:ByteArray)(k:T 25)(fc fa:Int):Prop:=∀w,Below B wb w->Calls prog 5 #[.string s] w fun e w'=>Below w.heap.size w w' /\ ∃c0 c1 c2 c3 c4 L3 L4,e=.returned (.tuple #[.agg #[c0,c1,c2,c3,c4],.agg #[.int .i64 fc,.int .i64 fa]])/\NodeIn (fun b=>w.heap.size<=b/\b<w'.heap.size) w' 25 k c0 c1 c2 c3 c4 /\
 SpN w' c3 L3/\SpR w' (25-1) c4 L4/\Own (fun b=>w.heap.size<=b/\b<w'.heap.size) (L3++L4)/\(L3++L4).length<=1000000
theorem qtX (s:ByteArray) (k:T 25) (fc fa:Int) (hSp:qtV s k fc fa) (w:World) (hIm:qtW w.heap.size w s k fc fa) (hs:s.size<=1048576) :
  Calls prog 3 #[.string s] w fun e w'=>e=.returned (.bool true)/\Below w.heap.size w w':=by
 have cA:Hid (qtV s k fc fa):=hSp
 have bJ:Hid (qtW w.heap.size w s k fc fa):=hIm
 have cK:¬(1048576:Int)<(s.size:Int):=by omega
 have bK:=Lib.hid (fun W=>qtU fc fa W)
 clear hSp hIm
 go_enter func3,ntmps3
 go_wp2_with fail
 refine (cA.out w).mono ?_
 rintro e w3 ⟨aY,p0,p1,p2,p3,p4,rfl,aZ⟩
 obtain⟨s0,s1,s2,sa,sl,sc,ra,rl,rc,rfl,rfl,rfl,rfl,rfl⟩:=aZ.shape
 have cB:=aY.size
 have aR:=((Below.refl w3.heap.size w3).alloc (Nat.le_refl _) (.cells #[.int .i64 s0,.int .i64 s1,.string s2,.slice sa sl sc,.slice ra rl rc] 25)).alloc (by simp) (.cells #[.int .i64 fc,.int .i64 fa] 27)
 have hA:=(Box5.new w3 (.int .i64 s0) (.int .i64 s1) (.string s2) (.slice sa sl sc) (.slice ra rl rc) 25).keep ((Below.refl _ _).alloc (Nat.le_refl _) (.cells #[.int .i64 fc,.int .i64 fa] 27))
 have bL:((w3.alloc (.cells #[.int .i64 s0,.int .i64 s1,.string s2,.slice sa sl sc,.slice ra rl rc] 25)).alloc (.cells #[.int .i64 fc,.int .i64 fa] 27)).heap[w3.heap.size+1]?=some (.cells #[.int .i64 fc,.int .i64 fa] 27 (0,0)):=by
  have:=heap_alloc_new (w3.alloc (.cells #[.int .i64 s0,.int .i64 s1,.string s2,.slice sa sl sc,.slice ra rl rc] 25)) (.cells #[.int .i64 fc,.int .i64 fa] 27)
  rw[World.size_alloc]at this;exact this
 obtain⟨bA,bB⟩:=aZ.step (fun b hb=>hb.2) aR
 have d:=qaA aY cB aR
 have cC:((w3.alloc (.cells #[.int .i64 s0,.int .i64 s1,.string s2,.slice sa sl sc,.slice ra rl rc] 25)).alloc (.cells #[.int .i64 fc,.int .i64 fa] 27)).heap.size=w3.heap.size+2:=by simp
 clear aR aZ aY
 obtain⟨WA,bC⟩:∃WA,WA=(w3.alloc (.cells #[.int .i64 s0,.int .i64 s1,.string s2,.slice sa sl sc,.slice ra rl rc] 25)).alloc (.cells #[.int .i64 fc,.int .i64 fa] 27):=⟨_,rfl⟩
 rw[<- bC]at hA bL bA bB d cC
 have cD:Hid (Below w.heap.size w WA):=d
 go_wp2_with fail
 rw[<- bC]
 clear bC
 refine (bJ.out WA cD.out).mono ?_
 rintro e o ⟨z,g0,g1,g2,g3,g4,L3,L4,rfl,bD,bV,bW,ho,aE⟩
 obtain⟨A,B,C,D,E,F,G,H,I,rfl,rfl,rfl,rfl,rfl⟩:=bD.shape
 have cL:=z.size
 have i:=((Below.refl o.heap.size o).alloc (Nat.le_refl _) (.cells #[.int .i64 A,.int .i64 B,.string C,.slice D E F,.slice G H I] 25)).alloc (by simp) (.cells #[.int .i64 fc,.int .i64 fa] 27)
 have aD:=(Box5.new o (.int .i64 A) (.int .i64 B) (.string C) (.slice D E F) (.slice G H I) 25).keep ((Below.refl _ _).alloc (Nat.le_refl _) (.cells #[.int .i64 fc,.int .i64 fa] 27))
 have p:((o.alloc (.cells #[.int .i64 A,.int .i64 B,.string C,.slice D E F,.slice G H I] 25)).alloc (.cells #[.int .i64 fc,.int .i64 fa] 27)).heap[o.heap.size+1]?=some (.cells #[.int .i64 fc,.int .i64 fa] 27 (0,0)):=by
  have:=heap_alloc_new (o.alloc (.cells #[.int .i64 A,.int .i64 B,.string C,.slice D E F,.slice G H I] 25)) (.cells #[.int .i64 fc,.int .i64 fa] 27)
  rw[World.size_alloc]at this;exact this
 obtain⟨w7,aF⟩:∃w7,w7=(o.alloc (.cells #[.int .i64 A,.int .i64 B,.string C,.slice D E F,.slice G H I] 25)).alloc (.cells #[.int .i64 fc,.int .i64 fa] 27):=⟨_,rfl⟩
 have cM:w7.heap.size=o.heap.size+2:=by rw[aF];simp
 rw[<- aF]at i aD p
 have q:SitN k fc fa (fun b=>w.heap.size<=b/\b<w3.heap.size) w3.heap.size o.heap.size (.int .i64 s0) (.int .i64 s1) (.string s2) (.slice sa sl sc) (.slice ra rl rc) (.int .i64 A) (.int .i64 B) (.string C) (.slice D E F) (.slice G H I) w w7:=
  ⟨qaA (qaA d d.size z) (by have:=d.size;omega) i,(hA.keep z).keep i,(i.block _ (by omega)).trans ((z.block _ (by omega)).trans bL),((bA.step bB z).1.step (fun b hb=>by omega) i).1,fun b hb=>hb.2,aD,by omega,by omega⟩
 have bM:=(bD.step (fun b hb=>hb.2) i).1
 have bN:=bV.below i
 have bO:=bW.below i
 obtain⟨a0,a1,a2,a3,a4⟩:=id q.ansBox
 obtain⟨b0,b1,b2,b3,b4⟩:=id aD
 have bP:Hid (Calls prog 6 _ _ _):=qnG 25 _ _ k _ _ _ _ _ _ _ _ _ _ w7 bM.tree q.ans.tree (fun b hb=>by omega) (fun b hb=>by have:=d.size;omega)
 have J:Hid (SitN k fc fa (fun b=>w.heap.size<=b/\b<w3.heap.size) w3.heap.size o.heap.size (.int .i64 s0) (.int .i64 s1) (.string s2) (.slice sa sl sc) (.slice ra rl rc) (.int .i64 A) (.int .i64 B) (.string C) (.slice D E F) (.slice G H I) w w7):=q
 have HG:Hid (SpN w7 (.slice D E F) L3/\SpR w7 (25-1) (.slice G H I) L4):=⟨bN,bO⟩
 have HO:Hid (Own (fun b=>WA.heap.size<=b/\b<o.heap.size) (L3++L4)/\(L3++L4).length<=1000000):=⟨ho,aE⟩
 have bQ:w.heap.size<=w7.heap.size:=by have:=d.size;omega
 clear q bM bN bO bD bV bW ho aE i aD hA bA bB d z
 have K:=Lib.hid p
 clear p
 go_upto_region 5 with fail
 rw[<- aF]
 clear aF
 go_wp2_with fail
 refine bP.out.mono ?_
 rintro e cE ⟨rfl,n⟩
 have bR:=J.out.keep bQ n
 obtain⟨⟨bE,bF⟩,-⟩:=qbY bR.ansF
 obtain⟨⟨bG,bH⟩,-⟩:=qbY ((n.block (o.heap.size+1) (by omega)).trans K.out)
 have aG:=Lib.hid n
 have bS:=n.size
 clear bP a0 a1 a2 a3 a4 b0 b1 b2 b3 b4 bR n K
 go_wp2_with fail
 refine (bK.out cE).mono ?_
 rintro e w8 ⟨rfl,aP⟩
 have L:=qaA aG.out bS aP
 clear bE bF bG bH aG aP
 have cN:=L.size
 have aS:=J.out.keep bQ L
 have r:=HG.out.1.below L
 have t:=HG.out.2.below L
 have aE:=HO.out.2
 rw[List.length_append]at aE
 have M:∀s,s∈L3++L4->s.ok w8:=fun s hs=>(List.mem_append.1 hs).elim (r.ok s) (t.ok s)
 have aH:Hid (Calls prog 8 _ _ _):=qtS (25-1) A B C _ _ L3 L4 1 w8 r t (by omega) (by omega)
 have N:Hid (SitN k fc fa (fun b=>w.heap.size<=b/\b<w3.heap.size) w3.heap.size o.heap.size (.int .i64 s0) (.int .i64 s1) (.string s2) (.slice sa sl sc) (.slice ra rl rc) (.int .i64 A) (.int .i64 B) (.string C) (.slice D E F) (.slice G H I) w w8):=aS
 have y:Hid (SpN w8 (.slice D E F) L3/\SpR w8 (25-1) (.slice G H I) L4/\∀s,s∈L3++L4->s.ok w8):=⟨r,t,M⟩
 obtain⟨b0,b1,b2,b3,b4⟩:=id aS.gotBox
 clear aS r t M J HG L
 go_wp2_with fail
 refine aH.out.mono ?_
 rintro e f ⟨rfl,h⟩
 have bT:=h.size
 have aI:∀b:Nat,b<w8.heap.size->¬(WA.heap.size<=b/\b<o.heap.size)->f.heap[b]?=w8.heap[b]?:=fun b hb hn=>h.other hb (fun s hs e=>hn (by rw[<- e];exact HO.out.1.1 s hs))
 have aT:=N.out.step (u':=f) (Z:=fun b=>WA.heap.size<=b/\b<o.heap.size) (Wrote.below_of N.out.below (by omega) h (fun s hs=>by have:=HO.out.1.1 s hs;omega)) bT aI (fun b hb=>by omega)
 have O:=h.holds y.out.2.2 HO.out.1.2
 have u:=h.sim y.out.2.2
 have P:=y.out.1.sim u
 have Q:=SpR.sim u y.out.2.1
 have aJ:Hid (Calls prog 9 _ _ _):=qkV (25-1) A B C _ _ L3 L4 1 f P Q O (by omega) (by omega)
 have m:Hid (SitN k fc fa (fun b=>w.heap.size<=b/\b<w3.heap.size) w3.heap.size o.heap.size (.int .i64 s0) (.int .i64 s1) (.string s2) (.slice sa sl sc) (.slice ra rl rc) (.int .i64 A) (.int .i64 B) (.string C) (.slice D E F) (.slice G H I) w f):=aT
 have R:Hid (SpN f (.slice D E F) L3/\SpR f (25-1) (.slice G H I) L4/\Holds f (L3++L4) 1/\∀s,s∈L3++L4->s.ok f):=⟨P,Q,O,fun s hs=>Spot.ok_sim (y.out.2.2 s hs) u⟩
 clear b0 b1 b2 b3 b4
 obtain⟨b0,b1,b2,b3,b4⟩:=id aT.gotBox
 clear aT O u P Q aI h aH N y
 have cO:¬(1:Int)+(L3.length:Int)+(L4.length:Int)<0:=by omega
 have cF:((1:Int)+(L3.length:Int)+(L4.length:Int) != 1+(L3.length:Int)+(L4.length:Int))=false:=by simp
 go_wp2_with fail
 refine aJ.out.mono ?_
 rintro e bX ⟨rfl,Y⟩
 have cG:=Y.size
 have S:Hid (Below f.heap.size f bX):=Y
 clear aJ b0 b1 b2 b3 b4 Y
 go_wp2_with fail
 refine (bJ.out bX (qaA m.out.below (by omega) S.out)).mono ?_
 rintro e l ⟨aA,h0,h1,h2,h3,h4,N3,N4,rfl,aB,-,-,-,-⟩
 obtain⟨v0,v1,v2,ea,el,ec,ja,jl,jc,rfl,rfl,rfl,rfl,rfl⟩:=aB.shape
 have cH:=aA.size
 have v:=((Below.refl l.heap.size l).alloc (Nat.le_refl _) (.cells #[.int .i64 v0,.int .i64 v1,.string v2,.slice ea el ec,.slice ja jl jc] 25)).alloc (by simp) (.cells #[.int .i64 fc,.int .i64 fa] 27)
 have U:=(Box5.new l (.int .i64 v0) (.int .i64 v1) (.string v2) (.slice ea el ec) (.slice ja jl jc) 25).keep ((Below.refl _ _).alloc (Nat.le_refl _) (.cells #[.int .i64 fc,.int .i64 fa] 27))
 have p:((l.alloc (.cells #[.int .i64 v0,.int .i64 v1,.string v2,.slice ea el ec,.slice ja jl jc] 25)).alloc (.cells #[.int .i64 fc,.int .i64 fa] 27)).heap[l.heap.size+1]?=some (.cells #[.int .i64 fc,.int .i64 fa] 27 (0,0)):=by
  have:=heap_alloc_new (l.alloc (.cells #[.int .i64 v0,.int .i64 v1,.string v2,.slice ea el ec,.slice ja jl jc] 25)) (.cells #[.int .i64 fc,.int .i64 fa] 27)
  rw[World.size_alloc]at this;exact this
 obtain⟨bI,x⟩:∃bI,bI=(l.alloc (.cells #[.int .i64 v0,.int .i64 v1,.string v2,.slice ea el ec,.slice ja jl jc] 25)).alloc (.cells #[.int .i64 fc,.int .i64 fa] 27):=⟨_,rfl⟩
 have cI:bI.heap.size=l.heap.size+2:=by rw[x];simp
 rw[<- x]at v U p
 have j:=qaA (qaA S.out (by omega) aA) (by omega) v
 have aU:=m.out.keep (by omega) j
 obtain⟨a0,a1,a2,a3,a4⟩:=id aU.ansBox
 obtain⟨b0,b1,b2,b3,b4⟩:=id U
 have aK:=(aB.step (fun b hb=>hb.2) v).1
 have aL:Hid (Calls prog 6 _ _ _):=qnG 25 _ _ k _ _ _ _ _ _ _ _ _ _ _ aK.tree aU.ans.tree (fun b hb=>by omega) (fun b hb=>by omega)
 have V:Hid (Below f.heap.size f _):=j
 have K:=Lib.hid p
 clear aA aB v j aU aK S U p
 go_upto_region 16 with fail
 rw[<- x]
 clear x
 go_wp2_with fail
 refine aL.out.mono ?_
 rintro e bY ⟨rfl,g⟩
 have aM:=m.out.keep (by omega) (qaA V.out (by omega) g)
 obtain⟨⟨bE,bF⟩,-⟩:=qbY aM.ansF
 obtain⟨⟨bG,bH⟩,-⟩:=qbY ((g.block (l.heap.size+1) (by omega)).trans K.out)
 have X:=Lib.hid g
 have aV:=g.size
 clear b0 b1 b2 b3 b4 aM g K
 go_wp2_with fail
 refine (bK.out bY).mono ?_
 rintro e bZ ⟨rfl,aC⟩
 have aN:=qaA X.out aV aC
 clear bE bF bG bH X aC
 have c:=qaA V.out (by omega) aN
 have cJ:=c.size
 have aW:=m.out.keep (by omega) c
 have aO:Hid (Calls prog 9 _ _ _):=qkV (25-1) A B C _ _ L3 L4 1 bZ (R.out.1.below c) (R.out.2.1.below c) (R.out.2.2.1.below R.out.2.2.2 c) (by omega) (by omega)
 have aX:Hid (Below w.heap.size w bZ):=aW.below
 obtain⟨b0,b1,b2,b3,b4⟩:=id aW.gotBox
 clear aL a0 a1 a2 a3 a4 aN c aW V R m
 go_wp2_with fail
 refine aO.out.mono ?_
 rintro e cP ⟨rfl,aQ⟩
 have bU:=qaA aX.out aX.out.size aQ
 clear aO b0 b1 b2 b3 b4 aQ aX
 go_wp2_with fail
 go_ret
 exact⟨rfl,bU⟩
end Go.Proofs.YtelogmjfekhmpaaGreatDoor
