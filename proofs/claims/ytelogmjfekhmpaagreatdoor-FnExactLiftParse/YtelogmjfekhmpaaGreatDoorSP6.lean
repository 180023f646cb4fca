import Derived.Test.YtelogmjfekhmpaaGreatDoorSP5
import Derived.Test.YtelogmjfekhmpaaGreatDoorPN2
import Derived.Test.YtelogmjfekhmpaaGreatDoorMN2
namespace Go.Proofs.YtelogmjfekhmpaaGreatDoor
set_option maxRecDepth 100000
set_option maxHeartbeats 16000000
open Go.RowKit
def qhP (M:Nat) (s:ByteArray) (w:World) (e:Ending) (w':World):Prop:=
 Below w.heap.size w w' /\ ((∃ l,leafW M s=some l/\e=.returned (.tuple #[.agg #[.int .i64 l.1,.int .i64 l.2.1,.string l.2.2,.slice none 0 0,.slice none 0 0],.bool true])) ∨
  (leafW M s=none/\freeB s=true/\∃ g,w.heap.size<=g/\w'.heap[g]?=some (.cells #[.string s] 9 (0,0))/\e=.returned (.tuple #[.agg #[.int .i64 4,.int .i64 0,.string ⟨#[]⟩,.slice (some ⟨g,0,none⟩) 1 1,.slice none 0 0],.bool true])) ∨
  (leafW M s=none/\freeB s=false/\e=.returned (.tuple #[.agg #[.int .i64 0,.int .i64 0,.string ⟨#[]⟩,.slice none 0 0,.slice none 0 0],.bool false])))
theorem qsU (M:Nat) (hM:3000<=M) (P:Nat) (s:ByteArray) (hs:s.size<=3000) (w:World) :
  Calls Tryz.prog 22 #[.pointer (some ⟨P,0,none⟩),.string s] w (qhP M s w):=by
 obtain⟨W0,aL⟩:∃ W0,W0=w.alloc zeroN:=⟨_,rfl⟩
 have aU:Below w.heap.size w W0:=by rw[aL];exact (Below.refl _ _).alloc (Nat.le_refl _) _
 have bB:W0.heap.size=w.heap.size+1:=by rw[aL];simp
 have aV:W0.heap[w.heap.size]?=some (.cells #[.int .i64 0,.int .i64 0,.string ⟨#[]⟩,.slice none 0 0,.slice none 0 0] 25 (0,0)):=by rw[aL];exact heap_alloc_new w zeroN
 have HT:Hid (Calls Tryz.prog 37 #[.string s] W0 (qfG (M+1) (ansU M s) (okU M s) W0)):=qiY s M (by omega) (by omega) W0
 have HF:Hid (∀ w',Calls Tryz.prog 38 #[.string s] w' fun e w''=>e=.returned (.bool (freeB s))/\Below w'.heap.size w' w''):=fun w'=>qfH s w' (by unfold maxLen;omega)
 have aW:=Lib.hid aU
 have aX:=Lib.hid aV
 clear aU aV
 rcases qjM M s with ⟨t,hr,aM,aZ,aG⟩|⟨hr,aM,aG⟩
 case' inl=>
  have aY:=qwT hr
  rw[aM,aZ]at HT
  clear aM aZ hr
 case' inr=>
  rw[aM]at HT
  clear aM hr
  have aQ:=aG
  generalize ansU M s=t at *
 all_goals
  go_enter Tryz.func22,Tryz.ntmps22
  go_wp2_with fail
  rw[<- aL]
  clear aL
  refine HT.out.mono ?_
  rintro e w2 ⟨aP,d0,d1,d2,d3,d4,rfl,ht⟩
  obtain⟨x0,x1,x2,xa,xl,xc,ya,yl,yc,rfl,rfl,rfl,rfl,rfl⟩:=ht.shape
  obtain⟨W,hW⟩:∃ W,W=w2.alloc (.cells #[.int .i64 x0,.int .i64 x1,.string x2,.slice xa xl xc,.slice ya yl yc] 67):=⟨_,rfl⟩
  have bC:=aP.size
  have bD:W.heap.size=w2.heap.size+1:=by rw[hW];simp
  have aC:Hid (Below w.heap.size w W):=by rw[hW];exact (aW.out.trans (aP.mono (by omega))).alloc (by omega) _
  have aR:W.heap[w.heap.size]?=some (.cells #[.int .i64 0,.int .i64 0,.string ⟨#[]⟩,.slice none 0 0,.slice none 0 0] 25 (0,0)):=by
   rw[hW,Below.heap_alloc _ _ _ (by omega)]
   exact (aP.block _ (by omega)).trans aX.out
  have b0:W.cell? ⟨w2.heap.size,0,none⟩=some (.int .i64 x0):=by rw[hW];exact (Box5.new w2 _ _ _ _ _ _).c0
  have b1:W.cell? ⟨w2.heap.size,1,none⟩=some (.int .i64 x1):=by rw[hW];exact (Box5.new w2 _ _ _ _ _ _).c1
  have b2:W.cell? ⟨w2.heap.size,2,none⟩=some (.string x2):=by rw[hW];exact (Box5.new w2 _ _ _ _ _ _).c2
  have aJ:Hid (x0=Nd.sort t):=(Value.int.inj ht.1).2
  have aN:Hid (x1=Nd.num t):=(Value.int.inj ht.2.1).2
  have aO:Hid (x2=Nd.text t):=(Value.string.inj ht.2.2.1)
  have bE:¬ w.heap.size=w2.heap.size:=by omega
  have bA:¬ w2.heap.size=w.heap.size:=by omega
  obtain⟨⟨z0,z1,z2,z3,z4⟩,zf⟩:=qaC aR
  have zf0:=zf 0
  have zf1:=zf 1
  have zf2:=zf 2
  have zf3:=zf 3
  have zf4:=zf 4
  have aH:=Lib.hid aR
  clear zf aP ht HT aW aX aR
 ·go_upto_region 2 with fail
  rw[<- hW]
  clear hW aQ aJ aN aO
  have aI:=Lib.hid aG
  clear aG
  have aD:=Lib.hid (HF.out W)
  clear HF
  cases hf:freeB s with
  | true=>
   rw[hf]at aD
   have aF:=Lib.hid hf
   clear hf
   go_wp2_with fail
   refine aD.out.mono ?_
   rintro e w3 ⟨rfl,aA⟩
   have aS:=aA.size
   have aB:Below w.heap.size w w3:=aC.out.trans (aA.mono aC.out.size)
   have aE:=(aA.block w.heap.size (by omega)).trans aH.out
   obtain⟨⟨z0',z1',z2',z3',z4'⟩,zf'⟩:=qaC aE
   have zg0:=zf' 0
   have zg1:=zf' 1
   have zg2:=zf' 2
   have zg3:=zf' 3
   have zg4:=zf' 4
   have HP:Hid (qhP M s w (.returned (.tuple #[.agg #[.int .i64 4,.int .i64 0,.string ⟨#[]⟩,.slice (some ⟨w3.heap.size,0,none⟩) 1 1,.slice none 0 0],.bool true])) (put5 (w3.alloc (.cells #[.string s] 9)) w.heap.size 0 (.int .i64 4) (.int .i64 0) (.string ⟨#[]⟩) (.slice (some ⟨w3.heap.size,0,none⟩) 1 1) (.slice none 0 0))):=
    ⟨qaZ (aB.alloc aB.size _) (Nat.le_refl _),.inr (.inl ⟨aI.out,aF.out,w3.heap.size,aB.size,by rw[qaS (by omega)];exact heap_alloc_new _ _,rfl⟩)⟩
   obtain⟨⟨y0,y1,y2,y3,y4⟩,yf⟩:=qaC ((Below.heap_alloc w3 (.cells #[.string s] 9) w.heap.size (by omega)).trans aE)
   have yf0:=yf 0
   have yf1:=yf 1
   have yf2:=yf 2
   have yf3:=yf 3
   have yf4:=yf 4
   clear yf
   have aT:¬ w.heap.size=w3.heap.size:=by omega
   have aK:¬ w3.heap.size=w.heap.size:=by omega
   clear zf' aE aB aA aD aC aH aI aF z0 z1 z2 z3 z4 zf0 zf1 zf2 zf3 zf4 b0 b1 b2
   go_wp2_with fail
   refine bodyPost_ret (v:=.tuple #[.agg #[.int .i64 4,.int .i64 0,.string ⟨#[]⟩,.slice (some ⟨w3.heap.size,0,none⟩) 1 1,.slice none 0 0],.bool true]) (by simp[results,Tryz.results22,go_sem,y0,y1,y2,y3,y4]) rfl ?_
   exact HP.out
  | false=>
   rw[hf]at aD
   have aF:=Lib.hid hf
   clear hf
   go_wp2_with fail
   refine aD.out.mono ?_
   rintro e w3 ⟨rfl,aA⟩
   have aS:=aA.size
   have aB:Below w.heap.size w w3:=aC.out.trans (aA.mono aC.out.size)
   have aE:=(aA.block w.heap.size (by omega)).trans aH.out
   obtain⟨⟨z0',z1',z2',z3',z4'⟩,zf'⟩:=qaC aE
   have zg0:=zf' 0
   have zg1:=zf' 1
   have zg2:=zf' 2
   have zg3:=zf' 3
   have zg4:=zf' 4
   have HP:Hid (qhP M s w (.returned (.tuple #[.agg #[.int .i64 0,.int .i64 0,.string ⟨#[]⟩,.slice none 0 0,.slice none 0 0],.bool false])) (put5 w3 w.heap.size 0 (.int .i64 0) (.int .i64 0) (.string ⟨#[]⟩) (.slice none 0 0) (.slice none 0 0))):=
    ⟨qaZ aB (Nat.le_refl _),.inr (.inr ⟨aI.out,aF.out,rfl⟩)⟩
   clear zf' aE aB aA aD aC aH aI aF z0 z1 z2 z3 z4 zf0 zf1 zf2 zf3 zf4 b0 b1 b2
   go_wp2_with fail
   refine bodyPost_ret (v:=.tuple #[.agg #[.int .i64 0,.int .i64 0,.string ⟨#[]⟩,.slice none 0 0,.slice none 0 0],.bool false]) (by simp[results,Tryz.results22,go_sem,z0',z1',z2',z3',z4']) rfl ?_
   exact HP.out
 ·go_upto_region 2 with fail
  rw[<- hW]
  clear hW
  rcases aG with ⟨h3,aG⟩|⟨h3,aG⟩
  ·have HP:Hid (qhP M s w (.returned (.tuple #[.agg #[.int .i64 x0,.int .i64 x1,.string x2,.slice none 0 0,.slice none 0 0],.bool true])) (put5 W w.heap.size 0 (.int .i64 x0) (.int .i64 x1) (.string x2) (.slice none 0 0) (.slice none 0 0))):=
    ⟨qaZ aC.out (Nat.le_refl _),.inl ⟨_,aG,by rw[aJ.out,aN.out,aO.out]⟩⟩
   have hc:x0=1∨x0=2∨x0=3:=by have:=aJ.out;omega
   clear aJ aN aO aC aH HF aG h3 aY
   rcases hc with rfl|rfl|rfl
   ·go_wp2_with fail
    refine bodyPost_ret (v:=.tuple #[.agg #[.int .i64 1,.int .i64 x1,.string x2,.slice none 0 0,.slice none 0 0],.bool true]) (by simp[results,Tryz.results22,go_sem,z0,z1,z2,z3,z4]) rfl ?_
    exact HP.out
   ·go_wp2_with fail
    refine bodyPost_ret (v:=.tuple #[.agg #[.int .i64 2,.int .i64 x1,.string x2,.slice none 0 0,.slice none 0 0],.bool true]) (by simp[results,Tryz.results22,go_sem,z0,z1,z2,z3,z4]) rfl ?_
    exact HP.out
   ·go_wp2_with fail
    refine bodyPost_ret (v:=.tuple #[.agg #[.int .i64 3,.int .i64 x1,.string x2,.slice none 0 0,.slice none 0 0],.bool true]) (by simp[results,Tryz.results22,go_sem,z0,z1,z2,z3,z4]) rfl ?_
    exact HP.out
  ·have e1:(x0==1)=false:=by have:=aJ.out;simp;omega
   have e2:(x0==2)=false:=by have:=aJ.out;simp;omega
   have e3:(x0==3)=false:=by have:=aJ.out;simp;omega
   have aI:=Lib.hid aG
   clear aG h3 aY aJ aN aO
   have aD:=Lib.hid (HF.out W)
   clear HF
   cases hf:freeB s with
   | true=>
    rw[hf]at aD
    have aF:=Lib.hid hf
    clear hf
    go_wp2_with fail
    refine aD.out.mono ?_
    rintro e w3 ⟨rfl,aA⟩
    have aS:=aA.size
    have aB:Below w.heap.size w w3:=aC.out.trans (aA.mono aC.out.size)
    have aE:=(aA.block w.heap.size (by omega)).trans aH.out
    obtain⟨⟨z0',z1',z2',z3',z4'⟩,zf'⟩:=qaC aE
    have zg0:=zf' 0
    have zg1:=zf' 1
    have zg2:=zf' 2
    have zg3:=zf' 3
    have zg4:=zf' 4
    have HP:Hid (qhP M s w (.returned (.tuple #[.agg #[.int .i64 4,.int .i64 0,.string ⟨#[]⟩,.slice (some ⟨w3.heap.size,0,none⟩) 1 1,.slice none 0 0],.bool true])) (put5 (w3.alloc (.cells #[.string s] 9)) w.heap.size 0 (.int .i64 4) (.int .i64 0) (.string ⟨#[]⟩) (.slice (some ⟨w3.heap.size,0,none⟩) 1 1) (.slice none 0 0))):=
     ⟨qaZ (aB.alloc aB.size _) (Nat.le_refl _),.inr (.inl ⟨aI.out,aF.out,w3.heap.size,aB.size,by rw[qaS (by omega)];exact heap_alloc_new _ _,rfl⟩)⟩
    obtain⟨⟨y0,y1,y2,y3,y4⟩,yf⟩:=qaC ((Below.heap_alloc w3 (.cells #[.string s] 9) w.heap.size (by omega)).trans aE)
    have yf0:=yf 0
    have yf1:=yf 1
    have yf2:=yf 2
    have yf3:=yf 3
    have yf4:=yf 4
    clear yf
    have aT:¬ w.heap.size=w3.heap.size:=by omega
    have aK:¬ w3.heap.size=w.heap.size:=by omega
    clear zf' aE aB aA aD aC aH aI aF z0 z1 z2 z3 z4 zf0 zf1 zf2 zf3 zf4 b0 b1 b2
    go_wp2_with fail
    refine bodyPost_ret (v:=.tuple #[.agg #[.int .i64 4,.int .i64 0,.string ⟨#[]⟩,.slice (some ⟨w3.heap.size,0,none⟩) 1 1,.slice none 0 0],.bool true]) (by simp[results,Tryz.results22,go_sem,y0,y1,y2,y3,y4]) rfl ?_
    exact HP.out
   | false=>
    rw[hf]at aD
    have aF:=Lib.hid hf
    clear hf
    go_wp2_with fail
    refine aD.out.mono ?_
    rintro e w3 ⟨rfl,aA⟩
    have aS:=aA.size
    have aB:Below w.heap.size w w3:=aC.out.trans (aA.mono aC.out.size)
    have aE:=(aA.block w.heap.size (by omega)).trans aH.out
    obtain⟨⟨z0',z1',z2',z3',z4'⟩,zf'⟩:=qaC aE
    have zg0:=zf' 0
    have zg1:=zf' 1
    have zg2:=zf' 2
    have zg3:=zf' 3
    have zg4:=zf' 4
    have HP:Hid (qhP M s w (.returned (.tuple #[.agg #[.int .i64 0,.int .i64 0,.string ⟨#[]⟩,.slice none 0 0,.slice none 0 0],.bool false])) (put5 w3 w.heap.size 0 (.int .i64 0) (.int .i64 0) (.string ⟨#[]⟩) (.slice none 0 0) (.slice none 0 0))):=
     ⟨qaZ aB (Nat.le_refl _),.inr (.inr ⟨aI.out,aF.out,rfl⟩)⟩
    clear zf' aE aB aA aD aC aH aI aF z0 z1 z2 z3 z4 zf0 zf1 zf2 zf3 zf4 b0 b1 b2
    go_wp2_with fail
    refine bodyPost_ret (v:=.tuple #[.agg #[.int .i64 0,.int .i64 0,.string ⟨#[]⟩,.slice none 0 0,.slice none 0 0],.bool false]) (by simp[results,Tryz.results22,go_sem,z0',z1',z2',z3',z4']) rfl ?_
    exact HP.out
end Go.Proofs.YtelogmjfekhmpaaGreatDoor
