import Derived.Test.YtelogmjfekhmpaaGreatDoorMarkK
import Derived.Test.YtelogmjfekhmpaaGreatDoorKOut0
import Derived.Test.YtelogmjfekhmpaaGreatDoorKRep
import Derived.Test.YtelogmjfekhmpaaGreatDoorEqN
import Derived.Test.YtelogmjfekhmpaaGreatDoorMark3
import Derived.Test.YtelogmjfekhmpaaGreatDoorKOut2
import Derived.Test.YtelogmjfekhmpaaGreatDoorKCaught
import Derived.Test.YtelogmjfekhmpaaGreatDoorKAns
namespace Go.Proofs.YtelogmjfekhmpaaGreatDoor
set_option maxRecDepth 100000
set_option maxHeartbeats 16000000
open Go.RowKit
def qgE (m:Nat) (k:K m) (ok:Bool) (w:World) (e:Ending) (w':World):Prop:=
 Below w.heap.size w w' /\ ∃ c0 c1 c2 L3 L4,e=.returned (.tuple #[.agg #[c0,c1,c2],.bool ok])/\KindIn (fun b=>w.heap.size<=b/\b<w'.heap.size) w' m k c0 c1 c2 /\
  SpN w' c1 L3/\SpK w' (m - 1) c2 L4/\Own (fun b=>w.heap.size<=b/\b<w'.heap.size) (L3++L4)/\(L3++L4).length<=1000
theorem qmL {m:Nat} {s:ByteArray} {w w':World} (h:readK (m+1) s=none) (hb:Below w.heap.size w w'):qgE (m+1) (ansR m s) (okR m s) w (.returned (.tuple #[.agg #[.int .i64 0,.slice none 0 0,.slice none 0 0],.bool false])) w':=by
 obtain⟨h1,h2⟩:=qsN h
 rw[h1,h2]
 exact⟨hb,_,_,_,[],[],rfl,qwP _ _ m,SpN.no _,SpK.no _ _,Own.nil _,by simp⟩
theorem qqB (s:ByteArray) (m:Nat) (hm:s.size<=m) (hs:s.size<=1048576) (w:World) :
  Calls Tryz.prog 88 #[.string s] w (qgE (m+1) (ansR m s) (okR m s) w):=by
 obtain⟨W1,aN⟩:∃ W1,W1=w.alloc (.cells #[.int .i64 0,.slice none 0 0,.slice none 0 0] 55):=⟨_,rfl⟩
 have aX:W1.heap.size=w.heap.size+1:=by rw[aN];simp
 have aS:Below w.heap.size w W1:=by rw[aN];exact (Below.refl _ _).alloc (Nat.le_refl _) _
 have aC:W1.heap[w.heap.size]?=some (.cells #[.int .i64 0,.slice none 0 0,.slice none 0 0] 55 (0,0)):=by rw[aN];exact heap_alloc_new _ _
 have aE:Hid (∀ W:World,Below w.heap.size w W->Below w.heap.size w (put3 W w.heap.size 0 (.int .i64 0) (.slice none 0 0) (.slice none 0 0))):=fun W h=>qeY h (Nat.le_refl _)
 by_cases h8:s.size<=800
 case neg=>
  have HN:Hid (readK (m+1) s=none):=qoQ h8
  have bG:(800:Int)<(s.size:Int):=by omega
  obtain⟨⟨r0,r1,r2⟩,f0,f1,f2⟩:=qeZ aC
  rw[aN]at r0 r1 r2 f0 f1 f2
  have HP:Hid (∀ o,qgE (m+1) (ansR m s) (okR m s) w (.returned (.tuple #[.agg #[.int .i64 0,.slice none 0 0,.slice none 0 0],.bool false])) (w.alloc o)):=fun o=>qmL HN.out ((Below.refl _ _).alloc (Nat.le_refl _) _)
  clear aS aC aX HN h8
  go_enter Tryz.func88,Tryz.ntmps88
  go_wp2_with fail
  refine bodyPost_ret (v:=.tuple #[.agg #[.int .i64 0,.slice none 0 0,.slice none 0 0],.bool false]) (by simp[results,Tryz.results88,go_sem]) rfl ?_
  exact HP.out _
 have bH:¬ (800:Int)<(s.size:Int):=by omega
 have bI:∀ (fn:Fn) (first cap:Array Value) (w:World),(Instr.makeFunc fn first cap).run Tryz.prog w=.ok (.func fn first cap) w:=fun _ _ _ _=>rfl
 have aY:Hid (Calls Tryz.prog 111 #[.string s] W1 _):=qkE s W1
 obtain⟨W2,aO⟩:∃ W2,W2=W1.alloc (.cells #[.string s,.int .i64 0] 180):=⟨_,rfl⟩
 have bJ:W2.heap.size=W1.heap.size+1:=by rw[aO];simp
 have aQ:Below w.heap.size w W2:=by rw[aO];exact aS.alloc aS.size _
 have aH:W2.heap[w.heap.size+1]?=some (.cells #[.string s,.int .i64 0] 180 (0,0)):=by rw[aO,<- aX];exact heap_alloc_new _ _
 have aF:W2.heap[w.heap.size]?=some (.cells #[.int .i64 0,.slice none 0 0,.slice none 0 0] 55 (0,0)):=by rw[aO,Below.heap_alloc _ _ _ (by omega)];exact aC
 have aZ:Sc W2 (w.heap.size+1) s 0:=⟨by simp[World.cell?,aH],by simp[World.cell?,aH],by simp[World.frozen?,aH]⟩
 have bA:Hid (Calls Tryz.prog 110 #[.func (.func 112) #[.pointer (some ⟨w.heap.size+1,0,none⟩)] #[]] W2 (qhN (w.heap.size+1) s (m+1) W2)):=qyJ (m+1) (w.heap.size+1) s W2 aZ (by omega) (by omega)
 clear aH aZ aC aS
 go_enter Tryz.func88,Tryz.ntmps88
 go_wp2_with fail
 rw[<- aN]
 clear aN
 refine aY.out.mono ?_
 rintro e w' ⟨rfl,rfl⟩
 clear aY
 go_wp2_with fail
 rw[<- aO]
 clear aO
 refine bA.out.mono ?_
 rintro e w3 ⟨aL,bF⟩
 have bK:=aL.size
 have aR:Below w.heap.size w w3:=⟨aL.os.trans aQ.os,aL.tape.trans aQ.tape,aL.output.trans aQ.output,by omega,fun b hb=>(aL.block b (by omega) (by omega)).trans (aQ.block b hb)⟩
 have aA:w3.heap[w.heap.size]?=some (.cells #[.int .i64 0,.slice none 0 0,.slice none 0 0] 55 (0,0)):=(aL.block _ (by omega) (by omega)).trans aF
 clear bA aQ aF aL
 rcases bF with ⟨k,c0,c1,c2,y1,rfl,y4⟩|⟨y1,rfl⟩
 case inr=>
  have HN:Hid (readK (m+1) s=none):=xgS y1
  have aI:=aR.alloc (by omega) (.cells #[.int .i64 0,.slice none 0 0,.slice none 0 0] 55)
  obtain⟨⟨r0,r1,r2⟩,f0,f1,f2⟩:=qeZ ((Below.heap_alloc w3 (.cells #[.int .i64 0,.slice none 0 0,.slice none 0 0] 55) w.heap.size (by omega)).trans aA)
  have HP:Hid (qgE (m+1) (ansR m s) (okR m s) w _ _):=qmL HN.out (aE.out _ aI)
  clear y1 HN aR aA aI aE
  go_wp2_with fail
  refine bodyPost_ret (v:=.tuple #[.agg #[.int .i64 0,.slice none 0 0,.slice none 0 0],.bool false]) (by simp[results,Tryz.results88,go_sem,r0,r1,r2]) rfl ?_
  exact HP.out
 obtain⟨z0,za,zl,zc,ua,ul,uc,rfl,rfl,rfl⟩:=y4.shape
 obtain⟨W4,aT⟩:∃ W4,W4=w3.alloc (.cells #[.int .i64 z0,.slice za zl zc,.slice ua ul uc] 55):=⟨_,rfl⟩
 have bL:W4.heap.size=w3.heap.size+1:=by rw[aT];simp
 have aJ:Below w3.heap.size w3 W4:=by rw[aT];exact (Below.refl _ _).alloc (Nat.le_refl _) _
 have aI:=qaA aR aR.size aJ
 have aB:=(aJ.block w.heap.size (by omega)).trans aA
 obtain⟨bB,aU⟩:=y4.step (fun b hb=>hb.2) aJ
 have HC:Hid (Calls Tryz.prog 113 _ _ _):=qpW (m+1) _ k _ _ _ W4 bB aU
 have HY:Hid (qaM (m+1) s.data.toList=some (k,[])):=y1
 clear y1 y4 aR aA aJ bB
 go_wp2_with fail
 rw[<- aT]
 clear aT
 refine HC.out.mono ?_
 rintro e w5 ⟨aK,⟨aP,v,rfl,aW⟩|⟨aP,rfl⟩⟩
 case inr=>
  have bE:=aK.size
  have HN:Hid (readK (m+1) s=none):=xdC HY.out aP
  have aD:=qaA aI aI.size aK
  obtain⟨⟨r0,r1,r2⟩,f0,f1,f2⟩:=qeZ ((aK.block w.heap.size (by omega)).trans aB)
  have HP:Hid (qgE (m+1) (ansR m s) (okR m s) w _ _):=qmL HN.out (aE.out _ aD)
  clear HN HC HY aP aK aI aB aD aE aU
  go_wp2_with fail
  refine bodyPost_ret (v:=.tuple #[.agg #[.int .i64 0,.slice none 0 0,.slice none 0 0],.bool false]) (by simp[results,Tryz.results88,go_sem,r0,r1,r2]) rfl ?_
  exact HP.out
 obtain⟨kb,rfl,-⟩:=id aW.ptr
 have hp:=qpF aP
 have bE:=aK.size
 have aD:=qaA aI aI.size aK
 have aG:=(aK.block w.heap.size (by omega)).trans aB
 have HO:Hid (Calls Tryz.prog 114 _ _ _):=qpY (m+1) _ k _ 1 w5 aW (fun b hb=>hb.elim (fun h=>by have:=aU b h;omega) (fun h=>h.2)) hp.1 hp.2
 have HR:Hid (ansR m s=k/\okR m s=true/\spKL (m+1) k<=1000):=by
  obtain⟨q1,q2⟩:=qsM (xdD h8 HY.out aP)
  exact⟨q1,q2,by have:=xiX (m+1) k 1 hp.1;omega⟩
 clear HC HY aP hp aW aK aI aB aU aE
 go_wp2_with fail
 refine HO.out.mono ?_
 rintro e w6 ⟨aV,g0,g1,g2,L3,L4,rfl,aM,bC,bD,ho,hl⟩
 obtain⟨u0,va,vl,vc,ya,yl,yc,rfl,rfl,rfl⟩:=aM.shape
 have bM:=aV.size
 obtain⟨⟨r0,r1,r2⟩,f0,f1,f2⟩:=qeZ ((aV.block w.heap.size (by omega)).trans aG)
 have HP:Hid (qgE (m+1) (ansR m s) (okR m s) w (.returned (.tuple #[.agg #[.int .i64 u0,.slice va vl vc,.slice ya yl yc],.bool true])) (put3 w6 w.heap.size 0 (.int .i64 u0) (.slice va vl vc) (.slice ya yl yc))):=by
  obtain⟨q1,q2,q3⟩:=HR.out
  rw[q1,q2]
  have q:∀ b,w5.heap.size<=b->(put3 w6 w.heap.size 0 (.int .i64 u0) (.slice va vl vc) (.slice ya yl yc)).heap[b]?=w6.heap[b]?:=fun b h=>qcX (by omega)
  have hS:∀ b,(w5.heap.size<=b/\b<w6.heap.size)->w.heap.size<=b/\b<(put3 w6 w.heap.size 0 (.int .i64 u0) (.slice va vl vc) (.slice ya yl yc)).heap.size:=fun b h=>by rw[qfI];omega
  exact⟨qeY (qaA aD aD.size aV) (Nat.le_refl _),_,_,_,L3,L4,rfl,aM.keep (fun b h=>q b h.1) hS,bC.same (fun s h=>q _ (ho.1 s (List.mem_append_left _ h)).1),bD.same (fun s h=>q _ (ho.1 s (List.mem_append_right _ h)).1),ho.mono hS,by rw[hl];exact q3⟩
 clear HO HR aM bC bD ho hl aV aD aG
 go_wp2_with fail
 refine bodyPost_ret (v:=.tuple #[.agg #[.int .i64 u0,.slice va vl vc,.slice ya yl yc],.bool true]) (by simp[results,Tryz.results88,go_sem,r0,r1,r2]) rfl ?_
 exact HP.out
end Go.Proofs.YtelogmjfekhmpaaGreatDoor
