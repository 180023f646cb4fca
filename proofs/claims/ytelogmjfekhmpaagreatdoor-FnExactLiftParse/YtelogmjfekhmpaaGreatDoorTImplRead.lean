import Derived.Test.YtelogmjfekhmpaaGreatDoorTI4
import Derived.Test.YtelogmjfekhmpaaGreatDoorTNew
import Derived.Test.YtelogmjfekhmpaaGreatDoorTClean
import Derived.Test.YtelogmjfekhmpaaGreatDoorTOut3
import Derived.Test.YtelogmjfekhmpaaGreatDoorTWalk
import Derived.Test.YtelogmjfekhmpaaGreatDoorTRd1
import Derived.Test.YtelogmjfekhmpaaGreatDoorBox
namespace Go.Proofs.YtelogmjfekhmpaaGreatDoor
set_option maxRecDepth 100000
set_option maxHeartbeats 16000000
open Go.RowKit
def qfK (m:Nat) (t:T m) (ok:Bool) (w:World) (e:Ending) (w':World):Prop:=
 Below w.heap.size w w' /\ ∃ c0 c1 c2 c3 c4 L3 L4,e=.returned (.tuple #[.agg #[c0,c1,c2,c3,c4],.bool ok])/\TreeIn (fun b=>w.heap.size<=b/\b<w'.heap.size) w' m t c0 c1 c2 c3 c4 /\
  SpN w' c3 L3/\SpR w' (m - 1) c4 L4/\Own (fun b=>w.heap.size<=b/\b<w'.heap.size) (L3++L4)/\(L3++L4).length<=1000
theorem qiD {m:Nat} {s:ByteArray} {w w':World} (h:readT (m+1) s=none) (hb:Below w.heap.size w w'):qfK (m+1) (ansU m s) (okU m s) w (.returned (.tuple #[.agg #[.int .i64 0,.int .i64 0,.string ⟨#[]⟩,.slice none 0 0,.slice none 0 0],.bool false])) w':=by
 obtain⟨h1,h2⟩:=qlX h
 rw[h1,h2]
 exact⟨hb,_,_,_,_,_,[],[],rfl,qdY _ _ m 0 0 _ rfl rfl (by decide),SpN.no _,SpR.no _ _,Own.nil _,by simp⟩
theorem qjL (s:ByteArray) (m B:Nat) (hm:s.size<=m) (hs:s.size<=1048576) (w:World) (hL:LaidU B w) (hB:B<=w.heap.size) :
  Calls Tryz.prog 83 #[.string s] w (qfK (m+1) (ansU m s) (okU m s) w):=by
 obtain⟨W1,aT⟩:∃ W1,W1=w.alloc (.cells #[.int .i64 0,.int .i64 0,.string ⟨#[]⟩,.slice none 0 0,.slice none 0 0] 67):=⟨_,rfl⟩
 have aZ:W1.heap.size=w.heap.size+1:=by rw[aT];simp
 have aU:Below w.heap.size w W1:=by rw[aT];exact (Below.refl _ _).alloc (Nat.le_refl _) _
 have aD:W1.heap[w.heap.size]?=some (.cells #[.int .i64 0,.int .i64 0,.string ⟨#[]⟩,.slice none 0 0,.slice none 0 0] 67 (0,0)):=by rw[aT];exact heap_alloc_new _ _
 have aE:Hid (∀ W:World,Below w.heap.size w W->Below w.heap.size w (put5 W w.heap.size 0 (.int .i64 0) (.int .i64 0) (.string ⟨#[]⟩) (.slice none 0 0) (.slice none 0 0))):=fun W h=>qaZ h (Nat.le_refl _)
 by_cases h8:s.size<=10000
 case neg=>
  have HN:Hid (readT (m+1) s=none):=qoH h8
  have bI:(10000:Int)<(s.size:Int):=by omega
  have HP:Hid (∀ o,qfK (m+1) (ansU m s) (okU m s) w (.returned (.tuple #[.agg #[.int .i64 0,.int .i64 0,.string ⟨#[]⟩,.slice none 0 0,.slice none 0 0],.bool false])) (w.alloc o)):=fun o=>qiD HN.out ((Below.refl _ _).alloc (Nat.le_refl _) _)
  clear aU aD aZ HN h8 hL
  go_enter Tryz.func83,Tryz.ntmps83
  go_wp2_with fail
  refine bodyPost_ret (v:=.tuple #[.agg #[.int .i64 0,.int .i64 0,.string ⟨#[]⟩,.slice none 0 0,.slice none 0 0],.bool false]) (by simp[results,Tryz.results83,go_sem]) rfl ?_
  exact HP.out _
 have bJ:¬ (10000:Int)<(s.size:Int):=by omega
 have bK:∀ (fn:Fn) (first cap:Array Value) (w:World),(Instr.makeFunc fn first cap).run Tryz.prog w=.ok (.func fn first cap) w:=fun _ _ _ _=>rfl
 have bA:Hid (Calls Tryz.prog 102 #[.string s] W1 fun e w'=>e=.returned (.pointer (some ⟨W1.heap.size,0,none⟩))/\Below W1.heap.size W1 w' /\ Sc w' W1.heap.size s 0/\Meth w' W1.heap.size):=qkF s W1
 have bB:Hid (LaidU B w):=hL
 clear hL
 go_enter Tryz.func83,Tryz.ntmps83
 go_wp2_with fail
 rw[<- aT]
 clear aT
 refine bA.out.mono ?_
 rintro e W2 ⟨rfl,aL,aW,bD⟩
 have bL:W1.heap.size<W2.heap.size:=aW.lt
 have aQ:=qaA aU aU.size aL
 have aF:=(aL.block w.heap.size (by omega)).trans aD
 have bC:Hid (Calls Tryz.prog 101 #[.func (.func 103) #[.pointer (some ⟨w.heap.size+1,0,none⟩)] #[]] W2 (qqE (w.heap.size+1) s (m+1) W2)):=by
  rw[<- aZ]
  exact quV (m+1) B W1.heap.size s W2 (bB.out.step (aQ.mono hB)) (by omega) aW bD (by omega) (by omega)
 clear aW bD aD aU aL bA bB
 go_wp2_with fail
 refine bC.out.mono ?_
 rintro e w3 ⟨aM,bH⟩
 have bM:=aM.size
 have aS:Below w.heap.size w w3:=⟨aM.os.trans aQ.os,aM.tape.trans aQ.tape,aM.output.trans aQ.output,by omega,fun b hb=>(aM.block b (by omega) (by omega)).trans (aQ.block b hb)⟩
 have aA:w3.heap[w.heap.size]?=some (.cells #[.int .i64 0,.int .i64 0,.string ⟨#[]⟩,.slice none 0 0,.slice none 0 0] 67 (0,0)):=(aM.block _ (by omega) (by omega)).trans aF
 clear bC aQ aF aM
 rcases bH with ⟨t,v,y1,rfl,y4⟩|⟨y1,rfl⟩
 case inr=>
  have HN:Hid (readT (m+1) s=none):=xfV y1
  obtain⟨⟨r0,r1,r2,r3,r4⟩,f0,f1,f2,f3,f4⟩:=qbI aA
  have HP:Hid (qfK (m+1) (ansU m s) (okU m s) w _ _):=qiD HN.out (aE.out _ aS)
  clear y1 HN aS aA aE
  go_wp2_with fail
  refine bodyPost_ret (v:=.tuple #[.agg #[.int .i64 0,.int .i64 0,.string ⟨#[]⟩,.slice none 0 0,.slice none 0 0],.bool false]) (by simp[results,Tryz.results83,go_sem,r0,r1,r2,r3,r4]) rfl ?_
  exact HP.out
 obtain⟨zt,zx,rfl⟩:=id y4.iface
 have HY:Hid (qaH (m+1) s.data.toList=some (t,[])):=y1
 have HO:Hid (Calls Tryz.prog 104 #[.iface zt zx] w3 (qdC (m+1) t w3)):=qqH (m+1) _ t _ w3 y4 (fun b hb=>hb.2) (qsQ (m+1) s.data.toList t [] (by simpa using h8) y1)
 clear y1 y4
 go_wp2_with fail
 refine HO.out.mono ?_
 rintro e w4 ⟨aX,g0,g1,g2,g3,g4,L3,L4,rfl,aN,bE,bF,ho,hl⟩
 obtain⟨u0,u1,u2,ua,ul,uc,ya,yl,yc,rfl,rfl,rfl,rfl,rfl⟩:=aN.shape
 have bG:=aX.size
 obtain⟨W5,aR⟩:∃ W5,W5=w4.alloc (.cells #[.int .i64 u0,.int .i64 u1,.string u2,.slice ua ul uc,.slice ya yl yc] 67):=⟨_,rfl⟩
 have bN:W5.heap.size=w4.heap.size+1:=by rw[aR];simp
 have aG:Below w4.heap.size w4 W5:=by rw[aR];exact (Below.refl _ _).alloc (Nat.le_refl _) _
 have aV:Box5 W5 w4.heap.size (.int .i64 u0) (.int .i64 u1) (.string u2) (.slice ua ul uc) (.slice ya yl yc):=by rw[aR];exact Box5.new _ _ _ _ _ _ _
 have aJ:=qaA aX bG aG
 have aH:=qaA aS aS.size aJ
 have aB:=(aJ.block w.heap.size (by omega)).trans aA
 obtain⟨aO,aY⟩:=aN.step (fun b hb=>hb.2) aG
 have HC:Hid (Calls Tryz.prog 105 _ W5 _):=qoM (m+1) _ t _ _ _ _ _ W5 aO aY
 have aK:Hid (TreeIn (fun b=>w3.heap.size<=b/\b<w4.heap.size) W5 (m+1) t (.int .i64 u0) (.int .i64 u1) (.string u2) (.slice ua ul uc) (.slice ya yl yc)/\SpN W5 (.slice ua ul uc) L3/\SpR W5 (m+1 - 1) (.slice ya yl yc) L4/\Own (fun b=>w3.heap.size<=b/\b<w4.heap.size) (L3++L4)/\(L3++L4).length=spL (m+1) t):=
  ⟨aO,bE.below aG,bF.below aG,ho,hl⟩
 obtain⟨k0,k1,k2,k3,k4⟩:=id aV
 rw[aR]at k0 k1 k2 k3 k4
 clear HO aN aO bE bF ho hl aX aJ aG aS aA
 go_wp2_with fail
 rw[<- aR]
 clear aR k0 k1 k2 k3 k4
 refine HC.out.mono ?_
 rintro e w6 ⟨rfl,aP⟩
 have bO:=aP.size
 have aI:=qaA aH aH.size aP
 have aC:=(aP.block w.heap.size (by omega)).trans aB
 obtain⟨⟨r0,r1,r2,r3,r4⟩,f0,f1,f2,f3,f4⟩:=qbI aC
 obtain⟨k0,k1,k2,k3,k4⟩:=aV.keep aP
 cases hok:okT (m+1) t with
 | false=>
  have HN:Hid (readT (m+1) s=none):=xaY HY.out hok
  have HP:Hid (qfK (m+1) (ansU m s) (okU m s) w _ _):=qiD HN.out (aE.out _ aI)
  clear HN HC HY hok aP aH aI aB aC aE aY aV aK
  go_wp2_with fail
  refine bodyPost_ret (v:=.tuple #[.agg #[.int .i64 0,.int .i64 0,.string ⟨#[]⟩,.slice none 0 0,.slice none 0 0],.bool false]) (by simp[results,Tryz.results83,go_sem,r0,r1,r2,r3,r4]) rfl ?_
  exact HP.out
 | true=>
  have HP:Hid (qfK (m+1) (ansU m s) (okU m s) w (.returned (.tuple #[.agg #[.int .i64 u0,.int .i64 u1,.string u2,.slice ua ul uc,.slice ya yl yc],.bool true])) (put5 w6 w.heap.size 0 (.int .i64 u0) (.int .i64 u1) (.string u2) (.slice ua ul uc) (.slice ya yl yc))):=by
   obtain⟨q1,q2⟩:=qiS (xaZ h8 HY.out hok)
   rw[q1,q2]
   obtain⟨a1,a2,a3,a4,a5⟩:=aK.out
   have bP:=spL_le (m+1) t 1 (qiR hok).1
   have bQ:=(qiR hok).2
   have q:∀ b,w3.heap.size<=b->b<W5.heap.size->(put5 w6 w.heap.size 0 (.int .i64 u0) (.int .i64 u1) (.string u2) (.slice ua ul uc) (.slice ya yl yc)).heap[b]?=W5.heap[b]?:=fun b h h'=>by rw[qaS (by omega)];exact aP.block b h'
   have hS:∀ b,(w3.heap.size<=b/\b<w4.heap.size)->w.heap.size<=b/\b<(put5 w6 w.heap.size 0 (.int .i64 u0) (.int .i64 u1) (.string u2) (.slice ua ul uc) (.slice ya yl yc)).heap.size:=fun b h=>by rw[qbQ];omega
   exact⟨qaZ aI (Nat.le_refl _),_,_,_,_,_,L3,L4,rfl,a1.keep (fun b h=>q b h.1 (by omega)) hS,a2.same (fun s h=>q _ (a4.1 s (List.mem_append_left _ h)).1 (by have:=(a4.1 s (List.mem_append_left _ h)).2;omega)),
    a3.same (fun s h=>q _ (a4.1 s (List.mem_append_right _ h)).1 (by have:=(a4.1 s (List.mem_append_right _ h)).2;omega)),a4.mono hS,by rw[a5];omega⟩
  clear HC HY hok aP aH aI aB aC aE aY aV aK
  go_wp2_with fail
  refine bodyPost_ret (v:=.tuple #[.agg #[.int .i64 u0,.int .i64 u1,.string u2,.slice ua ul uc,.slice ya yl yc],.bool true]) (by simp[results,Tryz.results83,go_sem,r0,r1,r2,r3,r4]) rfl ?_
  exact HP.out
end Go.Proofs.YtelogmjfekhmpaaGreatDoor
