import Derived.Test.YtelogmjfekhmpaaGreatDoorTRd2
import Derived.Test.YtelogmjfekhmpaaGreatDoorTParse
import Derived.Test.YtelogmjfekhmpaaGreatDoorSpecText2
import Derived.Test.YtelogmjfekhmpaaGreatDoorSpec3
namespace Go.Proofs.YtelogmjfekhmpaaGreatDoor
set_option maxRecDepth 100000
set_option maxHeartbeats 16000000
open Go.RowKit
def qfG (m:Nat) (k:T m) (ok:Bool) (w:World) (e:Ending) (w':World):Prop:=
 Below w.heap.size w w' /\ ∃ c0 c1 c2 c3 c4,e=.returned (.tuple #[.agg #[c0,c1,c2,c3,c4],.bool ok])/\TreeIn (fun b=>w.heap.size<=b/\b<w'.heap.size) w' m k c0 c1 c2 c3 c4
theorem qoL {m:Nat} {s:ByteArray} {w w':World} (h:readT (m+1) s=none) (hb:Below w.heap.size w w'):qfG (m+1) (ansU m s) (okU m s) w (.returned (.tuple #[.agg #[.int .i64 0,.int .i64 0,.string ⟨#[]⟩,.slice none 0 0,.slice none 0 0],.bool false])) w':=by
 obtain⟨h1,h2⟩:=qlX h
 rw[h1,h2]
 exact⟨hb,_,_,_,_,_,rfl,qdY _ _ m 0 0 _ rfl rfl (by decide)⟩
theorem xcB {m:Nat} {s:ByteArray} {t:T (m+1)} {i':Nat} {bad':Bool} (hg:GotT (m+1) 6 s 0 false t i' bad') (k:T (m+1)) (h:readT (m+1) s=some k):t=k/\bad'=false/\i'=s.size/\okT (m+1) t=true/\txtL (m+1) t=s.data.toList:=by
 obtain⟨h8,aA,ht⟩:=qeX h
 obtain⟨-,-,-,-,h5⟩:=hg
 obtain⟨q1,q2,q3⟩:=h5 k [] rfl (by rw[List.drop_zero,List.append_nil,ht]) (quN aA).1 rfl
 subst q1
 refine⟨rfl,q2,?_,aA,ht⟩
 rw[q3,ht];simp
theorem qiX {m:Nat} {s:ByteArray} {t:T (m+1)} {i':Nat} {bad':Bool} (hg:GotT (m+1) 6 s 0 false t i' bad') (h:bad'=true∨i'≠s.size∨okT (m+1) t=false∨txtL (m+1) t≠s.data.toList):readT (m+1) s=none:=by
 cases hr:readT (m+1) s with
 | none=>rfl
 | some k=>
  obtain⟨-,q1,q2,q3,q4⟩:=xcB hg k hr
  rcases h with h|h|h|h
  ·rw[q1]at h;cases h
  ·exact absurd q2 h
  ·rw[q3]at h;cases h
  ·exact absurd q4 h
theorem qiY (s:ByteArray) (m:Nat) (hm:7<=m+1) (hs:s.size<=1048576) (w:World) :
  Calls Tryz.prog 37 #[.string s] w (qfG (m+1) (ansU m s) (okU m s) w):=by
 obtain⟨W1,aP⟩:∃ W1,W1=w.alloc (.cells #[.int .i64 0,.int .i64 0,.string ⟨#[]⟩,.slice none 0 0,.slice none 0 0] 67):=⟨_,rfl⟩
 have bB:W1.heap.size=w.heap.size+1:=by rw[aP];simp
 have aQ:Below w.heap.size w W1:=by rw[aP];exact (Below.refl _ _).alloc (Nat.le_refl _) _
 have aC:W1.heap[w.heap.size]?=some (.cells #[.int .i64 0,.int .i64 0,.string ⟨#[]⟩,.slice none 0 0,.slice none 0 0] 67 (0,0)):=by rw[aP];exact heap_alloc_new _ _
 have aN:Hid (∀ W:World,Below w.heap.size w W->Below w.heap.size w (put5 W w.heap.size 0 (.int .i64 0) (.int .i64 0) (.string ⟨#[]⟩) (.slice none 0 0) (.slice none 0 0))):=fun W h=>qaZ h (Nat.le_refl _)
 by_cases h8:s.size<=10000
 case neg=>
  have bH:(10000:Int)<(s.size:Int):=by omega
  have HP:Hid (∀ o,qfG (m+1) (ansU m s) (okU m s) w (.returned (.tuple #[.agg #[.int .i64 0,.int .i64 0,.string ⟨#[]⟩,.slice none 0 0,.slice none 0 0],.bool false])) (w.alloc o)):=fun o=>qoL (qoH h8) ((Below.refl _ _).alloc (Nat.le_refl _) _)
  clear aQ aC bB h8
  go_enter Tryz.func37,Tryz.ntmps37
  go_wp2_with fail
  refine bodyPost_ret (v:=.tuple #[.agg #[.int .i64 0,.int .i64 0,.string ⟨#[]⟩,.slice none 0 0,.slice none 0 0],.bool false]) (by simp[results,Tryz.results37,go_sem]) rfl ?_
  exact HP.out _
 have bI:¬ (10000:Int)<(s.size:Int):=by omega
 obtain⟨W2,aM⟩:∃ W2,W2=W1.alloc (.cells #[.string s,.int .i64 0,.bool false] 72):=⟨_,rfl⟩
 have bJ:W2.heap.size=w.heap.size+2:=by rw[aM];simp;omega
 have aO:Below w.heap.size w W2:=by rw[aM];exact aQ.alloc aQ.size _
 have bC:RdS W2 (w.heap.size+1) s ((0:Nat):Int) false:=by
  show W2.heap[w.heap.size+1]?=_
  rw[aM,<- bB];exact heap_alloc_new _ _
 have aD:W2.heap[w.heap.size]?=some (.cells #[.int .i64 0,.int .i64 0,.string ⟨#[]⟩,.slice none 0 0,.slice none 0 0] 67 (0,0)):=by rw[aM,Below.heap_alloc _ _ _ (by omega)];exact aC
 have HK:Hid (Calls Tryz.prog 54 #[.pointer (some ⟨w.heap.size+1,0,none⟩),.int .i64 1] W2 (qbB (m+1) 6 W2 (w.heap.size+1) s 0 false)):=qxX 6 (Nat.le_refl _) (m+1) (w.heap.size+1) s 0 false W2 hm bC (by omega) (fun _=>Nat.zero_le _) (by omega)
 clear bC aC aQ
 go_enter Tryz.func37,Tryz.ntmps37
 go_wp2_with fail
 rw[<- aP,<- aM]
 clear aP aM
 refine HK.out.mono ?_
 rintro e w3 ⟨aK,t,d0,d1,d2,d3,d4,i',bad',rfl,ht,aY,hG⟩
 obtain⟨u0,u1,u2,ua,ul,uc,ya,yl,yc,rfl,rfl,rfl,rfl,rfl⟩:=ht.shape
 have bK:=aK.size
 have aT:Below w.heap.size w w3:=⟨aK.os.trans aO.os,aK.tape.trans aO.tape,aK.output.trans aO.output,by omega,fun b hb=>(aK.block b (by omega) (by omega)).trans (aO.block b hb)⟩
 have aE:w3.heap[w.heap.size]?=some (.cells #[.int .i64 0,.int .i64 0,.string ⟨#[]⟩,.slice none 0 0,.slice none 0 0] 67 (0,0)):=(aK.block _ (by omega) (by omega)).trans aD
 obtain⟨W4,aL⟩:∃ W4,W4=w3.alloc (.cells #[.int .i64 u0,.int .i64 u1,.string u2,.slice ua ul uc,.slice ya yl yc] 67):=⟨_,rfl⟩
 have bL:W4.heap.size=w3.heap.size+1:=by rw[aL];simp
 have aF:Below w3.heap.size w3 W4:=by rw[aL];exact (Below.refl _ _).alloc (Nat.le_refl _) _
 have aR:=qaA aT aT.size aF
 have aG:=(aF.block w.heap.size (by omega)).trans aE
 obtain⟨aJ,aZ⟩:=ht.step (fun b hb=>hb.2) aF
 have aU:RdS W4 (w.heap.size+1) s i' bad':=(aF.block _ aY.lt).trans aY
 have aI:Box5 W4 w3.heap.size (.int .i64 u0) (.int .i64 u1) (.string u2) (.slice ua ul uc) (.slice ya yl yc):=by rw[aL];exact Box5.new _ _ _ _ _ _ _
 have c1:=aU.cell1
 have c2:=aU.cell2
 have HG:Hid (GotT (m+1) 6 s 0 false t i' bad'):=hG
 obtain⟨k0,k1,k2,k3,k4⟩:=id aI
 have aA:Hid (∀ W:World,Below W4.heap.size W4 W->readT (m+1) s=none->qfG (m+1) (ansU m s) (okU m s) w (.returned (.tuple #[.agg #[.int .i64 0,.int .i64 0,.string ⟨#[]⟩,.slice none 0 0,.slice none 0 0],.bool false])) (put5 W w.heap.size 0 (.int .i64 0) (.int .i64 0) (.string ⟨#[]⟩) (.slice none 0 0) (.slice none 0 0))):=fun W hW h=>qoL h (aN.out W (qaA aR aR.size hW))
 have HZ:Hid (∀ W:World,Below W4.heap.size W4 W->W.heap[w.heap.size]?=some (.cells #[.int .i64 0,.int .i64 0,.string ⟨#[]⟩,.slice none 0 0,.slice none 0 0] 67 (0,0))):=fun W hW=>(hW.block w.heap.size (by omega)).trans aG
 have HB:Hid (Below w.heap.size w W4):=aR
 clear HK hG ht aY aU aK aT aF aR aD aE aG aO aN
 cases bad' with
 | true=>
  obtain⟨⟨r0,r1,r2,r3,r4⟩,f0,f1,f2,f3,f4⟩:=qbI (HZ.out W4 (Below.refl _ _))
  have HP:Hid _:=aA.out W4 (Below.refl _ _) (qiX HG.out (.inl rfl))
  rw[aL]at c1 c2 k0 k1 k2 k3 k4 r0 r1 r2 r3 r4 f0 f1 f2 f3 f4 HP
  clear aI aJ aA HZ HG
  go_wp2_with fail
  refine bodyPost_ret (v:=.tuple #[.agg #[.int .i64 0,.int .i64 0,.string ⟨#[]⟩,.slice none 0 0,.slice none 0 0],.bool false]) (by simp[results,Tryz.results37,go_sem,r0,r1,r2,r3,r4]) rfl ?_
  exact HP.out
 | false=>
  by_cases hat:i'=s.size
  case neg=>
   have bD:((i':Int) != (s.size:Int))=true:=by simp;omega
   obtain⟨⟨r0,r1,r2,r3,r4⟩,f0,f1,f2,f3,f4⟩:=qbI (HZ.out W4 (Below.refl _ _))
   have HP:Hid _:=aA.out W4 (Below.refl _ _) (qiX HG.out (.inr (.inl hat)))
   rw[aL]at c1 c2 k0 k1 k2 k3 k4 r0 r1 r2 r3 r4 f0 f1 f2 f3 f4 HP
   clear aI aJ aA HZ HG hat
   go_wp2_with fail
   refine bodyPost_ret (v:=.tuple #[.agg #[.int .i64 0,.int .i64 0,.string ⟨#[]⟩,.slice none 0 0,.slice none 0 0],.bool false]) (by simp[results,Tryz.results37,go_sem,r0,r1,r2,r3,r4]) rfl ?_
   exact HP.out
  have bD:((i':Int) != (s.size:Int))=false:=by simp;omega
  have aV:Hid (Calls Tryz.prog 55 #[.agg #[.int .i64 u0,.int .i64 u1,.string u2,.slice ua ul uc,.slice ya yl yc]] W4 _):=qyA (m+1) _ t _ _ _ _ _ W4 aJ aZ
  rw[aL]at c1 c2 k0 k1 k2 k3 k4
  clear hat
  go_wp2_with fail
  rw[<- aL]
  clear c1 c2 k0 k1 k2 k3 k4
  refine aV.out.mono ?_
  rintro e w5 ⟨rfl,aH⟩
  have bE:=aH.size
  obtain⟨k0,k1,k2,k3,k4⟩:=aI.keep aH
  cases hok:okT (m+1) t with
  | false=>
   obtain⟨⟨r0,r1,r2,r3,r4⟩,f0,f1,f2,f3,f4⟩:=qbI (HZ.out w5 aH)
   have HP:Hid _:=aA.out w5 aH (qiX HG.out (.inr (.inr (.inl hok))))
   clear aI aJ aA HZ HG aH aV hok
   go_wp2_with fail
   refine bodyPost_ret (v:=.tuple #[.agg #[.int .i64 0,.int .i64 0,.string ⟨#[]⟩,.slice none 0 0,.slice none 0 0],.bool false]) (by simp[results,Tryz.results37,go_sem,r0,r1,r2,r3,r4]) rfl ?_
   exact HP.out
  | true=>
   have hp:=quN hok
   obtain⟨bA,bG⟩:=aJ.step aZ aH
   have aW:Hid (Calls Tryz.prog 47 _ w5 _):=qoK (m+1) _ t _ _ _ _ _ 1 w5 bA bG hp.1 hp.2
   have aX:Hid (okT (m+1) t=true):=hok
   clear hok hp aV
   go_wp2_with fail
   refine aW.out.mono ?_
   rintro e w6 ⟨rfl,aS⟩
   have bM:=aS.size
   have aB:=qaA aH bE aS
   clear k0 k1 k2 k3 k4
   obtain⟨k0,k1,k2,k3,k4⟩:=aI.keep aB
   obtain⟨⟨r0,r1,r2,r3,r4⟩,f0,f1,f2,f3,f4⟩:=qbI (HZ.out w6 aB)
   by_cases htx:txtL (m+1) t=s.data.toList
   ·have hq:((bs (txtL (m+1) t)).toList==s.toList)=true:=by rw[htx,bs_of];simp
    have HP:Hid (qfG (m+1) (ansU m s) (okU m s) w (.returned (.tuple #[.agg #[.int .i64 u0,.int .i64 u1,.string u2,.slice ua ul uc,.slice ya yl yc],.bool true])) (put5 w6 w.heap.size 0 (.int .i64 u0) (.int .i64 u1) (.string u2) (.slice ua ul uc) (.slice ya yl yc))):=by
     obtain⟨q1,q2⟩:=qiS (qwG h8 aX.out htx)
     rw[q1,q2]
     have bF:=(aJ.step aZ aB).1
     refine⟨qaZ (qaA HB.out HB.out.size aB) (Nat.le_refl _),_,_,_,_,_,rfl,bF.keep (fun b hb=>qaS (by omega)) (fun b hb=>by rw[qbQ];omega)⟩
    clear aI aJ bA aA HZ HG aH aS aB aW htx aX
    go_wp2_with fail
    refine bodyPost_ret (v:=.tuple #[.agg #[.int .i64 u0,.int .i64 u1,.string u2,.slice ua ul uc,.slice ya yl yc],.bool true]) (by simp[results,Tryz.results37,go_sem,r0,r1,r2,r3,r4]) rfl ?_
    exact HP.out
   ·have hq:((bs (txtL (m+1) t)).toList==s.toList)=false:=by
     rw[beq_eq_false_iff_ne]
     intro e
     apply htx
     rw[ByteArray.toList_eq,ByteArray.toList_eq,qcC]at e
     exact e
    have HP:Hid _:=aA.out w6 aB (qiX HG.out (.inr (.inr (.inr htx))))
    clear aI aJ bA aA HZ HG aH aS aB aW htx aX
    go_wp2_with fail
    refine bodyPost_ret (v:=.tuple #[.agg #[.int .i64 0,.int .i64 0,.string ⟨#[]⟩,.slice none 0 0,.slice none 0 0],.bool false]) (by simp[results,Tryz.results37,go_sem,r0,r1,r2,r3,r4]) rfl ?_
    exact HP.out
end Go.Proofs.YtelogmjfekhmpaaGreatDoor
