import Derived.Test.YtelogmjfekhmpaaGreatDoorRd
import Derived.Test.YtelogmjfekhmpaaGreatDoorRet
import Derived.WalkSmall
import Derived.LoopTactic
namespace Go.Proofs.YtelogmjfekhmpaaGreatDoor
set_option maxRecDepth 100000
set_option maxHeartbeats 16000000
open Go.RowKit
theorem qxM (s:ByteArray) (j:Nat):qaV (lookB s j)=true->j<s.size:=by
 intro h
 exact Classical.byContradiction fun hn=>by rw[qbW s j (by omega)]at h;exact absurd h (by decide)
theorem qfW (l:List UInt8) (p:UInt8->Bool) (k:Nat) (h:∀ x,x∈l.take k->p x=true) (hd:p ((l.drop k).headD 0)=false):l.takeWhile p=l.take k:=by
 have hc:∀ c r,l.drop k=c :: r->p c=false:=by intro c r e;rw[e]at hd;exact hd
 conv=>lhs;rw[<- List.take_append_drop k l]
 exact qcT _ _ h hc
theorem qhI (s:ByteArray) (i k:Nat) (p:UInt8->Bool) (h:i+k<s.size) (ha:∀ x,x∈(s.data.toList.drop i).take k->p x=true) (hc:p s[i+k]=true):∀ x,x∈(s.data.toList.drop i).take (k+1)->p x=true:=by
 intro x hx
 have hl:k<(s.data.toList.drop i).length:=by simp;omega
 rw[List.take_succ_eq_append_getElem hl]at hx
 rcases List.mem_append.1 hx with hx|hx
 ·exact ha x hx
 ·rw[List.mem_singleton]at hx
  subst hx
  simpa [ByteArray.getElem_eq_getElem_data] using hc
theorem qwA (w:World) (R:Nat) (s:ByteArray) (i:Nat) (bad:Bool) (h:RdS w R s i bad) (hs:s.size<=10000) (hi:i<=s.size) :
  Calls Tryz.prog 58 #[.pointer (some ⟨R,0,none⟩)] w fun e w'=>e=.returned (.string (bs ((s.data.toList.drop i).takeWhile qaV)))/\Near R w w' /\
   RdS w' R s ((i+((s.data.toList.drop i).takeWhile qaV).length:Nat):Int) bad/\i+((s.data.toList.drop i).takeWhile qaV).length<=s.size:=by
 have c0:=h.cell0
 have c1:=h.cell1
 have c2:=h.cell2
 go_enter Tryz.func58,Tryz.ntmps58
 go_wp2_with fail
 go_loopw [9] (fun _ wr=>∃ k:Nat,i+k<=s.size/\RdS wr R s ((i+k:Nat):Int) bad/\Near R w wr/\∀ x,x∈(s.data.toList.drop i).take k->qaV x=true) (fun _ wr=>s.size - atOf wr R)
 case atStart=>exact⟨0,by omega,h,Near.refl _ _,by simp⟩
 case round=>
  obtain⟨k,hk,hr,aD,aB⟩:=hrel
  have d0:=hr.cell0
  have d1:=hr.cell1
  have d2:=hr.cell2
  have df:=hr.free 1
  have HR:Hid (RdS wr R s ((i+k:Nat):Int) bad/\Near R w wr):=⟨hr,aD⟩
  clear hr aD c0 c1 c2 h
  generalize hj:i+k=j at *
  have HL:Hid (∀ m,Calls Tryz.prog 56 #[.pointer (some ⟨R,0,none⟩)] (wr.drewN m) fun e w'=>e=.returned (.int .u8 ((lookB s j).toNat:Int))/\∃ m',w'=wr.drewN m'):=fun m=>
   (qbL (wr.drewN m) R s j bad (HR.out.1.drewN m)).mono fun e w' ⟨he,k,hk⟩=>⟨he,m+k,by rw[hk,World.drewN_drewN]⟩
  have aC:Hid (Calls Tryz.prog 56 #[.pointer (some ⟨R,0,none⟩)] wr fun e w'=>e=.returned (.int .u8 ((lookB s j).toNat:Int))/\∃ m',w'=wr.drewN m'):=HL.out 0
  have aF:(0:Int)<=((lookB s j).toNat:Int):=by omega
  have aG:((lookB s j).toNat:Int)<=255:=by have:=(lookB s j).toNat_lt;omega
  cases hnm:qaV (lookB s j) with
  | true=>
   have aE:=qxM s j hnm
   have HA:Hid (∀ x,x∈(s.data.toList.drop i).take (k+1)->qaV x=true):=qhI s i k qaV (by omega) aB (by rw[qeU s j aE]at hnm;simpa only[hj] using hnm)
   have hw:IntKind.i64.wrap ((j:Int)+1)=(j:Int)+1:=by rw[IntKind.wrap_i64];omega
   have aA:(97<=((lookB s j).toNat:Int)/\((lookB s j).toNat:Int)<=122)∨(48<=((lookB s j).toNat:Int)/\((lookB s j).toNat:Int)<=57):=by simpa only[qaV,decide_eq_true_eq] using hnm
   clear aB hnm
   generalize (lookB s j).toNat=c at *
   rcases aA with ⟨q1,q2⟩|⟨q1,q2⟩
   ·go_wp2_with (go_at_call 56;(first|refine aC.out.mono ?_|refine (HL.out _).mono ?_);rintro e w' ⟨rfl,nq,rfl⟩)
    have HS:=fun nq=>((HR.out.1.drewN nq).set1 ((j:Int)+1))
    go_roundw
    case rel=>exact⟨k+1,by omega,by rw[show ((i+(k+1):Nat):Int)=(j:Int)+1 by omega];exact HS _,(HR.out.2.drewN _).trans (Near.set R 1 _ _),HA.out⟩
    case measure=>rw[(HS _).atOf,HR.out.1.atOf];omega
   ·go_wp2_with (go_at_call 56;(first|refine aC.out.mono ?_|refine (HL.out _).mono ?_);rintro e w' ⟨rfl,nq,rfl⟩)
    have HS:=fun nq=>((HR.out.1.drewN nq).set1 ((j:Int)+1))
    go_roundw
    case rel=>exact⟨k+1,by omega,by rw[show ((i+(k+1):Nat):Int)=(j:Int)+1 by omega];exact HS _,(HR.out.2.drewN _).trans (Near.set R 1 _ _),HA.out⟩
    case measure=>rw[(HS _).atOf,HR.out.1.atOf];omega
  | false=>
   have HT:Hid ((s.data.toList.drop i).takeWhile qaV=(s.data.toList.drop i).take k):=qfW _ _ _ aB (by rw[List.drop_drop,hj];exact hnm)
   have HX:Hid (s.extract i j=bs ((s.data.toList.drop i).take k)):=by show _=_;rw[<- hj];exact qgA s i k
   have hl:Hid (((s.data.toList.drop i).take k).length=k):=by show _=_;simp;omega
   have aA:((lookB s j).toNat:Int)<48∨(57<((lookB s j).toNat:Int)/\((lookB s j).toNat:Int)<97)∨122<((lookB s j).toNat:Int):=by
    simp only[qaV,decide_eq_false_iff_not]at hnm;omega
   clear aB hnm
   generalize (lookB s j).toNat=c at *
   rcases aA with q1|⟨q1,q2⟩|q1
   all_goals
    go_wp2_with (go_at_call 56;(first|refine aC.out.mono ?_|refine (HL.out _).mono ?_);rintro e w' ⟨rfl,nq,rfl⟩)
    go_quiet (fail)
    go_wp2_with fail
    go_ret
    rw[HT.out,hl.out,hj]
    exact⟨qdX HX.out,(HR.out.2.drewN _).drewN _,(HR.out.1.drewN _).drewN _,hk⟩
end Go.Proofs.YtelogmjfekhmpaaGreatDoor
