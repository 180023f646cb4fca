import Derived.Test.YtelogmjfekhmpaaGreatDoorRd
import Derived.Test.YtelogmjfekhmpaaGreatDoorDec
import Derived.WalkSmall
import Derived.LoopTactic
namespace Go.Proofs.YtelogmjfekhmpaaGreatDoor
set_option maxRecDepth 100000
set_option maxHeartbeats 16000000
open Go.RowKit
def qvZ (w:World) (R:Nat) (s:ByteArray) (i:Nat) (bad:Bool) (e:Ending) (w':World):Prop:=
 Near R w w' /\ ((∃ x r,qbS 34 (s.data.toList.drop (i+1))=some (x,r)/\e=.returned (.string (bs x))/\RdS w' R s ((i+1+x.length+1:Nat):Int) bad/\i+1+x.length+1<=s.size) ∨
  (qbS 34 (s.data.toList.drop (i+1))=none/\∃ x,x.size<=10000/\e=.returned (.string x)/\RdS w' R s (s.size:Int) true))
theorem xfR (w:World) (R:Nat) (s:ByteArray) (i:Nat) (bad:Bool) (h:RdS w R s i bad) (hs:s.size<=10000) (hi:i<s.size) (h0:s[i]=34) :
  Calls Tryz.prog 71 #[.pointer (some ⟨R,0,none⟩)] w (qvZ w R s i bad):=by
 have HE:Hid (eatP [34] (s.data.toList.drop i)=some (s.data.toList.drop (i+1))):=by
  show _=_
  rw[qjX s i hi,h0];exact qaE _ _
 go_enter Tryz.func71,Tryz.ntmps71
 go_wp2_with fail
 refine (qcK _ R s ⟨#[34]⟩ i bad h hs (by decide) (by omega)).mono ?_
 rintro e w1 ⟨rfl,aE,⟨-,-,h1⟩|⟨aC,-⟩⟩
 case inr=>exact absurd (HE.out.symm.trans aC) (by simp)
 have h1:RdS w1 R s ((i+1:Nat):Int) bad:=h1
 have c0:=h1.cell0
 have c1:=h1.cell1
 have c2:=h1.cell2
 go_wp2_with fail
 go_loopw [14] (fun _ wr=>∃ k:Nat,i+1+k<=s.size/\RdS wr R s ((i+1+k:Nat):Int) bad/\Near R w wr/\∀ x,x∈(s.data.toList.drop (i+1)).take k->x≠34) (fun _ wr=>s.size - atOf wr R)
 case atStart=>exact⟨0,by omega,h1,aE,by simp⟩
 case round=>
  obtain⟨k,hk,hr,aF,aA⟩:=hrel
  have d0:=hr.cell0
  have d1:=hr.cell1
  have d2:=hr.cell2
  have df:=hr.free 1
  have HR:Hid (RdS wr R s ((i+1+k:Nat):Int) bad/\Near R w wr):=⟨hr,aF⟩
  clear hr aF c0 c1 c2 h1 aE HE h h0
  generalize hj:i+1+k=j at *
  by_cases hlt:j<s.size
  ·have hd:decide ((j:Int)<(s.size:Int))=true:=by simp;omega
   have aG:(j:Int)<(s.size:Int):=by omega
   have aJ:(0:Int)<=(j:Int):=by omega
   by_cases hq:s[j]=34
   ·have aH:(((s[j]).toNat:Int)==34)=true:=by rw[hq];rfl
    have HU:Hid (qbS 34 (s.data.toList.drop (i+1))=some ((s.data.toList.drop (i+1)).take k,(s.data.toList.drop (i+1)).drop k)):=
     qrH 34 _ k aA (by rw[List.drop_drop,List.drop_drop,hj,<- Nat.add_assoc,hj,qjX s j hlt,hq])
    have HE:Hid (eatP [34] (s.data.toList.drop j)=some (s.data.toList.drop (j+1))):=by
     show _=_
     rw[qjX s j hlt,hq];exact qaE _ _
    have HX:Hid (s.extract (i+1) j=bs ((s.data.toList.drop (i+1)).take k)):=by show _=_;rw[<- hj];exact qgA s (i+1) k
    have hl:((s.data.toList.drop (i+1)).take k).length=k:=by simp;omega
    clear aA
    go_wp2_with fail
    go_quiet (fail)
    go_wp2_with fail
    refine (qcK _ R s ⟨#[34]⟩ j bad (HR.out.1.drewN _) hs (by decide) (by omega)).mono ?_
    rintro e w2 ⟨rfl,aB,⟨-,aI,h2⟩|⟨aC,-⟩⟩
    case inr=>exact absurd (HE.out.symm.trans aC) (by simp)
    have c0:=h2.cell0
    have HS:Hid (RdS w2 R s ((j+1:Nat):Int) bad/\Near R w w2):=⟨h2,(HR.out.2.drewN _).trans aB⟩
    clear h2 aB d0 d1 d2 df
    go_wp2_with fail
    go_ret
    exact⟨HS.out.2,.inl ⟨_,_,HU.out,qdX HX.out,by rw[hl,hj];exact HS.out.1,by rw[hl,hj];exact aI⟩⟩
   ·have aH:(((s[j]).toNat:Int)==34)=false:=by
     rw[beq_eq_false_iff_ne]
     intro h;apply hq;apply UInt8.toNat_inj.1
     have aK:(34:UInt8).toNat=34:=rfl
     omega
    have HA:Hid (∀ x,x∈(s.data.toList.drop (i+1)).take (k+1)->x≠34):=xaI s (i+1) k 34 (by omega) aA (by simpa only[hj] using hq)
    have hw:IntKind.i64.wrap ((j:Int)+1)=(j:Int)+1:=by rw[IntKind.wrap_i64];omega
    clear aA
    go_wp2_with fail
    go_quiet (fail)
    go_wp2_with fail
    have HS:=((HR.out.1.drewN nq).set1 ((j:Int)+1))
    go_roundw
    case rel=>exact⟨k+1,by omega,by rw[show ((i+1+(k+1):Nat):Int)=(j:Int)+1 by omega];exact HS,(HR.out.2.drewN nq).trans (Near.set R 1 _ _),HA.out⟩
    case measure=>rw[HS.atOf,HR.out.1.atOf];omega
  ·have hd:decide ((j:Int)<(s.size:Int))=false:=by simp;omega
   have HJ:Hid (j=s.size):=by show _=_;omega
   have HU:Hid (qbS 34 (s.data.toList.drop (i+1))=none):=qkO 34 _ (by rw[List.take_of_length_le (by simp;omega)]at aA;exact aA)
   have HE:Hid (eatP [34] (s.data.toList.drop j)=none):=by
    show _=_
    rw[List.drop_of_length_le (by simp;omega)];rfl
   have hx:(s.extract (i+1) j).size<=10000:=by simp[ByteArray.size_extract];omega
   have aL:(j:Int)<=(s.size:Int):=by omega
   clear aA
   go_wp2_with fail
   go_quiet (fail)
   go_wp2_with fail
   refine (qcK _ R s ⟨#[34]⟩ j bad (HR.out.1.drewN _) hs (by decide) (by omega)).mono ?_
   rintro e w2 ⟨rfl,aB,⟨aD,-,-⟩|⟨-,h2⟩⟩
   case inl=>exact absurd (HE.out.symm.trans aD) (by simp)
   have c0:=h2.cell0
   have HS:Hid (RdS w2 R s (j:Int) true/\Near R w w2):=⟨h2,(HR.out.2.drewN _).trans aB⟩
   clear h2 aB d0 d1 d2 df
   go_wp2_with fail
   go_ret
   exact⟨HS.out.2,.inr ⟨HU.out,_,hx,rfl,by rw[<- HJ.out];exact HS.out.1⟩⟩
end Go.Proofs.YtelogmjfekhmpaaGreatDoor
