import Derived.Test.YtelogmjfekhmpaaGreatDoorTI1
import Derived.Test.YtelogmjfekhmpaaGreatDoorTNum
import Derived.Deep.RegionWith
namespace Go.Proofs.YtelogmjfekhmpaaGreatDoor
set_option maxRecDepth 100000
set_option maxHeartbeats 16000000
open Go.RowKit
theorem xjE {l:List UInt8} {b:Bool} {k:Nat} (hb:b=decide (l.head?=some 45)) (hall:∀ c,c∈((if b=true then l.drop 1 else l).take k)->digC c=true) (hk:(if b=true then 1 else 0)+k<=l.length)
  (hend:digC (((if b=true then l.drop 1 else l).drop k).headD 0)=false):numW l=l.take ((if b=true then 1 else 0)+k):=by
 unfold numW
 by_cases h:l.head?=some 45
 ·have:b=true:=by rw[hb];exact decide_eq_true h
  subst this
  simp only[if_true]at hall hend hk ⊢
  rw[if_pos h,qfW _ _ _ hall hend]
  cases l with
  | nil=>simp at h
  | cons c r=>
   have:c=45:=by simpa using h
   subst this
   rw[Nat.add_comm,List.take_succ_cons];rfl
 ·have:b=false:=by rw[hb];exact decide_eq_false h
  subst this
  simp only[Bool.false_eq_true,if_false]at hall hend hk ⊢
  rw[if_neg h,qfW _ _ _ hall hend,Nat.zero_add]
theorem xgT (m B R:Nat) (s:ByteArray) (i:Nat) (w:World) (hL:LaidU B w) (hBR:B<=R) (h:Sc w R s i) (hi:i<s.size) (hs:s.size<=10000) (hc:digC ((s.data.toList.drop i).headD 0)=true∨(s.data.toList.drop i).headD 0=45) :
  Calls Tryz.prog 127 #[.pointer (some ⟨R,0,none⟩)] w (TRPost R s i (m+1) w):=by
 have hR:=h.lt
 have HP:Hid (_/\_):=pu_num (m:=m) hc
 have aL:Hid (Sc w R s i):=h
 have aR:Hid (LaidU B w):=hL
 have HW:Hid (Calls Tryz.prog 155 #[.pointer (some ⟨R,0,none⟩),.string ⟨#[45]⟩] w _):=qdJ w R s ⟨#[45]⟩ i h hs (by decide) (by omega)
 have c1:=h.c1
 have aM:s.data.toList.drop i≠[]:=by
  intro e
  have:=congrArg List.length e
  simp at this;omega
 have HH:Hid ((s.data.toList.drop i).head?=some 45↔eatP [45] (s.data.toList.drop i)≠none):=by
  cases hd:s.data.toList.drop i with
  | nil=>exact absurd hd aM
  | cons c r=>
   refine⟨fun e=>?_,fun e=>?_⟩
   ·have:c=45:=by simpa using e
    subst this
    rw[qaE];simp
   ·by_cases hcc:c=45
    ·simp[hcc]
    ·exact absurd (qdL _ _ _ hcc) e
 clear h hL hc aM
 go_enter Tryz.func127,Tryz.ntmps127
 go_wp2_with fail
 refine HW.out.mono ?_
 intro e w1 aQ
 obtain⟨b,rfl,aJ,hF,HB⟩:∃ b:Bool,e=.returned (.bool b)/\Scan R w w1 (i+if b=true then 1 else 0)/\i+(if b=true then 1 else 0)<=s.size/\Hid (b=decide ((s.data.toList.drop i).head?=some 45)):=by
  rcases aQ with ⟨h1,rfl,h2,h3⟩|⟨h1,rfl,h2⟩
  ·exact⟨true,rfl,h2,h3,(decide_eq_true (HH.out.2 (by rw[show ([45]:List UInt8)=(⟨#[45]⟩:ByteArray).data.toList from rfl,h1];simp))).symm⟩
  ·exact⟨false,rfl,h2,by simp;omega,(decide_eq_false (fun e=>HH.out.1 e h1)).symm⟩
 have HF:Hid (s.data.toList.drop (i+if b=true then 1 else 0)=(if b=true then (s.data.toList.drop i).drop 1 else s.data.toList.drop i)):=by
  show _=_
  cases b <;> simp
 obtain⟨F,aK⟩:∃ F,F=i+(if b=true then 1 else 0):=⟨_,rfl⟩
 rw[<- aK]at aJ hF HF
 have aX:i<=F:=by omega
 have aN:Hid (F=i+(if b=true then 1 else 0)):=aK
 clear aQ HW aK c1
 go_wp2_with fail
 go_loopw [40] (fun _ wr=>∃ k:Nat,F+k<=s.size/\Scan R w wr (F+k)/\∀ c,c∈(s.data.toList.drop F).take k->digC c=true) (fun _ wr=>s.size - atS wr R)
 case atStart=>exact⟨0,by omega,aJ,by simp⟩
 case round=>
  obtain⟨k,hk,hS,aC⟩:=hrel
  have HS:Hid (Scan R w wr (F+k)):=hS
  have HA:Hid (atS wr R=F+k):=hS.atS
  have aG:=hS.sc aL.out
  have d0:=aG.c0
  have d1:=aG.c1
  have df:=aG.f1
  have aF:Hid (∀ q,Scan R w ((wr.drewN q).setCell ⟨R,1,none⟩ (.int .i64 ((F+k:Nat)+1:Int))) (F+k+1)):=fun q=>by
   have:=(hS.drewN q).trans (Scan.set ((hS.drewN q).sc aL.out) (F+k+1))
   rw[show ((F+k+1:Nat):Int)=((F+k:Nat):Int)+1 by omega]at this
   exact this
  clear hS aJ aG
  generalize hj:F+k=j at *
  have hw:IntKind.i64.wrap ((j:Int)+1)=(j:Int)+1:=by rw[IntKind.wrap_i64];omega
  have aA:Hid (digC ((s.data.toList.drop j).headD 0)=false->∀ q,Calls Tryz.prog 86 #[.string (s.extract i j)] (wr.drewN q).drew fun e w'=>∃ b v,e=.returned (.tuple #[.int .i64 v,.bool b]) /\
    Hid ((b=true->TRPost R s i (m+1) w (.returned (.iface 166 (.int .i64 v))) w')/\(b=false->TRPost R s i (m+1) w (.panicked refusal) w'))):=fun hend q=>by
   have aO:numW (s.data.toList.drop i)=(s.data.toList.drop i).take (j - i):=by
    have:=xjE (k:=k) HB.out (by rw[<- HF.out];exact aC) (by simp;rw[aN.out]at hj;omega) (by rw[<- HF.out,List.drop_drop,hj];exact hend)
    rw[this];congr 1;rw[aN.out]at hj;omega
   have hx:s.extract i j=bs (numW (s.data.toList.drop i)):=by
    rw[aO,show j=i+(j - i) by omega,qgA,show i+(j - i) - i=j - i by omega]
   have aE:(numW (s.data.toList.drop i)).length=j - i:=by rw[aO];simp;omega
   have aH:Near R w (wr.drewN q).drew:=((HS.out.drewN q).drewN 1).near
   have aY:=aH.size
   refine (qmN B _ _ (aR.out.near aH hBR hR) (by omega) (by rw[hx,qaJ,aE];omega)).mono ?_
   rintro e w' ⟨hb,⟨v,h1,rfl⟩|⟨h1,rfl⟩⟩
   ·rw[hx,qcC]at h1
    refine⟨true,v,rfl,(⟨fun _=>?_,fun e=>by cases e⟩:_/\_)⟩
    have aS:numW (s.data.toList.drop i)≠[]:=by
     intro e
     rw[e]at h1
     have:=(qdP h1).2
     obtain⟨c,r,e2,-⟩:=qiM v
     rw[e2]at this;cases this
    have aT:0<j - i:=by rw[<- aE];exact List.length_pos_iff.2 aS
    refine .inl ⟨(⟨1,v,ByteArray.empty,[],[]⟩:Nd (T m)),j,_,?_,by omega,hk,rfl,.inl ⟨rfl,rfl⟩,((HS.out.drewN q).drewN 1).below hb (Nat.lt_of_lt_of_le hR aH.size)⟩
    rw[HP.out.2 v h1,aE,List.drop_drop,show i+(j - i)=j by omega];rfl
   ·rw[hx,qcC]at h1
    exact⟨false,0,rfl,(⟨fun e=>(by cases e),fun _=>.inr ⟨HP.out.1 h1,rfl,aH.trans (Near.of_below hb)⟩⟩:_/\_)⟩
  by_cases hlt:j<s.size
  ·have hd:decide ((j:Int)<(s.size:Int))=true:=by simp;omega
   have aB:(s.data.toList.drop j).headD 0=s[j]:=by rw[qjX s j hlt];rfl
   have aP:(s[j].toNat:Int)<=255:=by have:=s[j].toNat_lt;omega
   have aZ:(j:Int)<(s.size:Int):=by omega
   have bA:((j:Int)).toNat=j:=by omega
   cases hdg:digC s[j] with
   | true=>
    have HD:Hid (∀ W,Calls Tryz.prog 139 #[.int .u8 (s[j].toNat:Int)] W fun e w'=>e=.returned (.bool true)/\w'=W):=fun W=>by
     have:=qdO (s[j].toNat:Int) W (by omega) aP
     have hq:digB (s[j].toNat:Int)=true:=hdg
     rw[hq]at this;exact this
    have aU:Hid (∀ c,c∈(s.data.toList.drop F).take (k+1)->digC c=true):=qhI s F k digC (by omega) aC (by simpa only[hj] using hdg)
    clear aC hdg aA aB
    go_wp2_with fail
    go_quiet (first|(go_at_call 139;refine Calls.quiet_of_same (HD.out _)))
    go_wp2_with fail
    go_roundw
    case rel=>exact⟨k+1,by omega,by rw[show F+(k+1)=j+1 by omega];exact aF.out _,aU.out⟩
    case measure=>rw[(aF.out _).atS,HA.out];omega
   | false=>
    have HD:Hid (∀ W,Calls Tryz.prog 139 #[.int .u8 (s[j].toNat:Int)] W fun e w'=>e=.returned (.bool false)/\w'=W):=fun W=>by
     have:=qdO (s[j].toNat:Int) W (by omega) aP
     have hq:digB (s[j].toNat:Int)=false:=hdg
     rw[hq]at this;exact this
    have aI:Hid (∀ q,_):=aA.out (by rw[aB];exact hdg)
    have aV:(i:Int)<=(j:Int):=by omega
    have aW:(j:Int)<=(s.size:Int):=by omega
    clear aC hdg aA aB
    go_wp2_with fail
    go_quiet (first|(go_at_call 139;refine Calls.quiet_of_same (HD.out _)))
    go_wp2_with fail
    go_region_with (go_at_call 86;refine (aI.out _).mono ?_;rintro e w7 ⟨b7,v7,rfl,aD⟩)
    all_goals
     cases b7 with
     | true=>
      have HY:Hid (TRPost R s i (m+1) w (.returned (.iface 166 (.int .i64 v7))) w7):=aD.out.1 rfl
      clear aD
      go_wp2_with (go_at_call 156;refine (qbC _).mono ?_;rintro e w' ⟨rfl,rfl⟩)
      go_ret
      exact HY.out
     | false=>
      have HY:Hid (TRPost R s i (m+1) w (.panicked refusal) w7):=aD.out.2 rfl
      clear aD
      go_wp2_with (go_at_call 156;refine (qfJ _).mono ?_;rintro e w' ⟨rfl,rfl⟩)
      exact⟨rfl,HY.out⟩
  ·have hd:decide ((j:Int)<(s.size:Int))=false:=by simp;omega
   have aI:Hid (∀ q,_):=aA.out (by rw[List.drop_of_length_le (by simp;omega)];decide)
   have aV:(i:Int)<=(j:Int):=by omega
   have aW:(j:Int)<=(s.size:Int):=by omega
   clear aC aA
   go_wp2_with fail
   go_quiet (fail)
   go_wp2_with fail
   go_region_with (go_at_call 86;refine (aI.out _).mono ?_;rintro e w7 ⟨b7,v7,rfl,aD⟩)
   all_goals
    cases b7 with
    | true=>
     have HY:Hid (TRPost R s i (m+1) w (.returned (.iface 166 (.int .i64 v7))) w7):=aD.out.1 rfl
     clear aD
     go_wp2_with (go_at_call 156;refine (qbC _).mono ?_;rintro e w' ⟨rfl,rfl⟩)
     go_ret
     exact HY.out
    | false=>
     have HY:Hid (TRPost R s i (m+1) w (.panicked refusal) w7):=aD.out.2 rfl
     clear aD
     go_wp2_with (go_at_call 156;refine (qfJ _).mono ?_;rintro e w' ⟨rfl,rfl⟩)
     exact⟨rfl,HY.out⟩
end Go.Proofs.YtelogmjfekhmpaaGreatDoor
