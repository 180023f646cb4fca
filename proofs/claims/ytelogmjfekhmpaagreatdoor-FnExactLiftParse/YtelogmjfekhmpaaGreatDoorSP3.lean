import Derived.Test.YtelogmjfekhmpaaGreatDoorSP1
import Derived.Test.YtelogmjfekhmpaaGreatDoorTRd4
import Derived.Test.YtelogmjfekhmpaaGreatDoorSL2
import Derived.Test.YtelogmjfekhmpaaGreatDoorPN1
namespace Go.Proofs.YtelogmjfekhmpaaGreatDoor
set_option maxRecDepth 100000
set_option maxHeartbeats 16000000
open Go.RowKit
theorem xdU {w:World} {P:Nat} {wv:Value} {ws:List ByteArray} {a c:Nat} {fc fa:Int} (h:Prs w P wv ws a c fc fa) (ha:a<=10000) (free:Bool) (unlike:ByteArray) :
  Calls Tryz.prog 26 #[.pointer (some ⟨P,0,none⟩),.bool free,.string unlike] w fun e w'=>
   (qeB free unlike (wordD ws a)=true/\e=.returned (.string (wordD ws a))/\PPost P wv ws (a+1) c fc fa w w') ∨
   (qeB free unlike (wordD ws a)=false/\e=.returned (.string ⟨#[]⟩)/\PPost P wv ws a c (ftC fc 2) (ftA fc fa a) w w'):=by
 have aJ:=qdQ h.short a
 have HL:=Lib.hid (qfE h)
 generalize hs:wordD ws a=s at *
 have HN:Hid (∀ w',Calls Tryz.prog 40 #[.string s] w' fun e w''=>e=.returned (.bool (nameB s))/\w''=w'):=fun w'=>qdR s w' (by unfold maxLen;omega)
 have HF:Hid (∀ w',Calls Tryz.prog 38 #[.string s] w' fun e w''=>e=.returned (.bool (freeB s))/\Below w'.heap.size w' w''):=fun w'=>qfH s w' (by unfold maxLen;omega)
 have HP:Hid (∀ w',Near P w w'->Prs w' P wv ws a c fc fa->Calls Tryz.prog 12 #[.pointer (some ⟨P,0,none⟩),.int .i64 2] w' fun e w''=>e=.returned (.tuple #[])/\PPost P wv ws a c (ftC fc 2) (ftA fc fa a) w w''):=fun w' hn hp=>by
  refine (qdE hp 2).mono ?_
  rintro e w'' ⟨rfl,h1,h2⟩
  exact⟨rfl,hn.trans h1,h2⟩
 have HG:Hid (qeB free unlike s=(nameB s && (!free || freeB s) && !(s==unlike))):=rfl
 have HU:=Lib.hid (qcN s unlike)
 have aC:Hid (∀ n w',Below (w.drewN n).heap.size (w.drewN n) w'->Near P w w' /\ Prs w' P wv ws a c fc fa):=fun n w' hb=>⟨(qbH (Near.refl P w) n).trans (Near.of_below hb),(h.drewN n).same hb⟩
 clear h hs
 cases aF:nameB s with
 | false=>
  rw[aF]at HN
  obtain aF:nameB s=false:=aF
  have aD:Hid (qeB free unlike s=false):=by show _=_;rw[HG.out];simp[aF]
  clear HG
  go_enter Tryz.func26,Tryz.ntmps26
  go_wp2_with fail
  refine HL.out.mono ?_
  rintro e w1 ⟨rfl,n,rfl⟩
  go_wp2_with fail
  refine (HN.out _).mono ?_
  rintro e w2 ⟨rfl,rfl⟩
  obtain⟨aB,aA⟩:=aC.out n _ (Below.refl _ _)
  have aE:=Lib.hid (HP.out _ aB aA)
  clear aC HP aB aA HN HF HL
  go_wp2_with fail
  refine aE.out.mono ?_
  rintro e w9 ⟨rfl,aA⟩
  have HE:=Lib.hid aA
  clear aE aA
  go_wp2_with fail
  go_ret
  exact .inr ⟨aD.out,rfl,HE.out⟩
 | true=>
  rw[aF]at HN
  cases free with
  | false=>
   cases hu:(s==unlike) with
   | true=>
    have aI:=HU.out.trans hu
    have aD:Hid (qeB false unlike s=false):=by show _=_;rw[HG.out];simp[aF,hu]
    clear HG
    go_enter Tryz.func26,Tryz.ntmps26
    go_wp2_with fail
    refine HL.out.mono ?_
    rintro e w1 ⟨rfl,n,rfl⟩
    go_wp2_with fail
    refine (HN.out _).mono ?_
    rintro e w2 ⟨rfl,rfl⟩
    obtain⟨aB,aA⟩:=aC.out n _ (Below.refl _ _)
    have aE:=Lib.hid (HP.out _ aB aA)
    clear aC HP aB aA HN HF HL
    go_wp2_with fail
    refine aE.out.mono ?_
    rintro e w9 ⟨rfl,aA⟩
    have HE:=Lib.hid aA
    clear aE aA
    go_wp2_with fail
    go_ret
    exact .inr ⟨aD.out,rfl,HE.out⟩
   | false=>
    have aI:=HU.out.trans hu
    have aD:Hid (qeB false unlike s=true):=by show _=_;rw[HG.out];simp[aF,hu]
    clear HG
    go_enter Tryz.func26,Tryz.ntmps26
    go_wp2_with fail
    refine HL.out.mono ?_
    rintro e w1 ⟨rfl,n,rfl⟩
    go_wp2_with fail
    refine (HN.out _).mono ?_
    rintro e w2 ⟨rfl,rfl⟩
    obtain⟨aB,aA⟩:=aC.out n _ (Below.refl _ _)
    obtain⟨⟨c0,c1,c2,c3,c4⟩,aG⟩:=aA.cells
    have f1:=aG 1
    have HE:Hid (PPost P wv ws (a+1) c fc fa w _):=⟨aB.trans (Near.set P 1 _ (.int .i64 ((a+1:Nat):Int))),aA.setAt (a+1)⟩
    clear aC HP aB aA HN HF HL aG
    go_wp2_with fail
    go_ret
    exact .inl ⟨aD.out,rfl,HE.out⟩
  | true=>
   cases hfr:freeB s with
   | false=>
    rw[hfr]at HF
    have aD:Hid (qeB true unlike s=false):=by show _=_;rw[HG.out];simp[aF,hfr]
    clear HG
    go_enter Tryz.func26,Tryz.ntmps26
    go_wp2_with fail
    refine HL.out.mono ?_
    rintro e w1 ⟨rfl,n,rfl⟩
    go_wp2_with fail
    refine (HN.out _).mono ?_
    rintro e w2 ⟨rfl,rfl⟩
    go_wp2_with fail
    refine (HF.out _).mono ?_
    rintro e w3 ⟨rfl,aH⟩
    obtain⟨aB,aA⟩:=aC.out n _ aH
    have aE:=Lib.hid (HP.out _ aB aA)
    clear aC HP aB aA HN HF HL
    go_wp2_with fail
    refine aE.out.mono ?_
    rintro e w9 ⟨rfl,aA⟩
    have HE:=Lib.hid aA
    clear aE aA
    go_wp2_with fail
    go_ret
    exact .inr ⟨aD.out,rfl,HE.out⟩
   | true=>
    rw[hfr]at HF
    cases hu:(s==unlike) with
    | true=>
     have aI:=HU.out.trans hu
     have aD:Hid (qeB true unlike s=false):=by show _=_;rw[HG.out];simp[aF,hfr,hu]
     clear HG
     go_enter Tryz.func26,Tryz.ntmps26
     go_wp2_with fail
     refine HL.out.mono ?_
     rintro e w1 ⟨rfl,n,rfl⟩
     go_wp2_with fail
     refine (HN.out _).mono ?_
     rintro e w2 ⟨rfl,rfl⟩
     go_wp2_with fail
     refine (HF.out _).mono ?_
     rintro e w3 ⟨rfl,aH⟩
     obtain⟨aB,aA⟩:=aC.out n _ aH
     have aE:=Lib.hid (HP.out _ aB aA)
     clear aC HP aB aA HN HF HL
     go_wp2_with fail
     refine aE.out.mono ?_
     rintro e w9 ⟨rfl,aA⟩
     have HE:=Lib.hid aA
     clear aE aA
     go_wp2_with fail
     go_ret
     exact .inr ⟨aD.out,rfl,HE.out⟩
    | false=>
     have aI:=HU.out.trans hu
     have aD:Hid (qeB true unlike s=true):=by show _=_;rw[HG.out];simp[aF,hfr,hu]
     clear HG
     go_enter Tryz.func26,Tryz.ntmps26
     go_wp2_with fail
     refine HL.out.mono ?_
     rintro e w1 ⟨rfl,n,rfl⟩
     go_wp2_with fail
     refine (HN.out _).mono ?_
     rintro e w2 ⟨rfl,rfl⟩
     go_wp2_with fail
     refine (HF.out _).mono ?_
     rintro e w3 ⟨rfl,aH⟩
     obtain⟨aB,aA⟩:=aC.out n _ aH
     obtain⟨⟨c0,c1,c2,c3,c4⟩,aG⟩:=aA.cells
     have f1:=aG 1
     have HE:Hid (PPost P wv ws (a+1) c fc fa w _):=⟨aB.trans (Near.set P 1 _ (.int .i64 ((a+1:Nat):Int))),aA.setAt (a+1)⟩
     clear aC HP aB aA HN HF HL aG
     go_wp2_with fail
     go_ret
     exact .inl ⟨aD.out,rfl,HE.out⟩
end Go.Proofs.YtelogmjfekhmpaaGreatDoor
