import Derived.Test.YtelogmjfekhmpaaGreatDoorParse
import Derived.Test.YtelogmjfekhmpaaGreatDoorRd2
import Derived.Test.YtelogmjfekhmpaaGreatDoorRd3
namespace Go.Proofs.YtelogmjfekhmpaaGreatDoor
set_option maxRecDepth 100000
set_option maxHeartbeats 16000000
open Go.RowKit
theorem quC (l:List UInt8) (c:UInt8):qcE (l++[c])=qcE l*10+(c.toNat - 48):=by
 unfold qcE;rw[List.foldl_append];rfl
theorem qgC {c:UInt8} (h:digC c=true):48<=c.toNat/\c.toNat<=57:=by
 simp only[digC,decide_eq_true_eq]at h;omega
theorem qxN (l:List UInt8) (h:∀ c,c∈l->digC c=true) (a:Nat):l.foldl (fun a c=>a*10+(c.toNat - 48)) a<(a+1)*10 ^ l.length:=by
 induction l generalizing a with
 | nil=>simp
 | cons c l ih=>
  have h1:=ih (fun x hx=>h x (List.mem_cons_of_mem _ hx)) (a*10+(c.toNat - 48))
  have h2:=qgC (h c (List.mem_cons_self ..))
  rw[List.foldl_cons,List.length_cons,Nat.pow_succ]
  refine Nat.lt_of_lt_of_le h1 ?_
  have h3:a*10+(c.toNat - 48)+1<=(a+1)*10:=by omega
  calc (a*10+(c.toNat - 48)+1)*10 ^ l.length<=((a+1)*10)*10 ^ l.length:=Nat.mul_le_mul_right _ h3
   _=(a+1)*(10 ^ l.length*10):=by rw[Nat.mul_assoc,Nat.mul_comm 10 (10 ^ l.length)]
theorem xaQ (l:List UInt8) (h:∀ c,c∈l->digC c=true):qcE l<10 ^ l.length:=by
 have:=qxN l h 0
 unfold qcE;omega
theorem qhZ (l:List UInt8) (h:∀ c,c∈l->digC c=true) (hl:l.length<=10):qcE l<10000000000:=by
 have h1:=xaQ l h
 have h2:10 ^ l.length<=10 ^ 10:=Nat.pow_le_pow_right (by decide) hl
 omega
theorem qlS (s:ByteArray) (j:Nat):digC (lookB s j)=true->j<s.size:=by
 intro h
 exact Classical.byContradiction fun hn=>by rw[qbW s j (by omega)]at h;exact absurd h (by decide)
def quD (w:World) (R:Nat) (s:ByteArray) (bad:Bool) (neg:Bool) (F:Nat) (e:Ending) (w':World):Prop:=
 Near R w w' /\ ∃ k,k<=10/\F+k<=s.size/\(∀ c,c∈(s.data.toList.drop F).take k->digC c=true)/\(k=10∨digC (lookB s (F+k))=false) /\
  e=.returned (.int .i64 (if neg=true then -(qcE ((s.data.toList.drop F).take k):Int) else (qcE ((s.data.toList.drop F).take k):Int)))/\RdS w' R s ((F+k:Nat):Int) (bad || k==0)
theorem qwB (s:ByteArray) (F k:Nat) (h:F+k<s.size):qcE ((s.data.toList.drop F).take (k+1))=qcE ((s.data.toList.drop F).take k)*10+(s[F+k].toNat - 48):=by
 have hl:k<(s.data.toList.drop F).length:=by simp;omega
 rw[List.take_succ_eq_append_getElem hl,quC]
 simp[ByteArray.getElem_eq_getElem_data]
theorem xiG (w:World) (R:Nat) (s:ByteArray) (i:Nat) (bad:Bool) (h:RdS w R s i bad) (hs:s.size<=10000) (hi:i<s.size) (hneg:lookB s i=45) :
  Calls Tryz.prog 73 #[.pointer (some ⟨R,0,none⟩)] w (quD w R s bad true (i+1)):=by
 have HL:Hid (Calls Tryz.prog 56 #[.pointer (some ⟨R,0,none⟩)] w fun e w'=>e=.returned (.int .u8 ((lookB s i).toNat:Int))/\∃ m',w'=w.drewN m'):=qbL w R s i bad h
 rw[hneg]at HL
 have hw:IntKind.i64.wrap ((i:Int)+1)=(i:Int)+1:=by rw[IntKind.wrap_i64];omega
 have c0:=h.cell0
 have c1:=h.cell1
 have c2:=h.cell2
 have f1:=h.free 1
 have h1:=fun m=>(h.drewN m).set1 ((i:Int)+1)
 have n1:∀ m,Near R w ((w.drewN m).setCell ⟨R,1,none⟩ (.int .i64 ((i:Int)+1))):=fun m=>((Near.refl R w).drewN m).trans (Near.set R 1 _ _)
 go_enter Tryz.func73,Tryz.ntmps73
 go_wp2_with (go_at_call 56;refine HL.out.mono ?_;rintro e w' ⟨rfl,nq,rfl⟩)
 go_loopw [5] (fun v wr=>∃ k:Nat,k<=10/\(i+1)+k<=s.size/\v=.int .i64 (qcE ((s.data.toList.drop (i+1)).take k):Int)/\RdS wr R s (((i+1)+k:Nat):Int) bad/\Near R w wr/\∀ x,x∈(s.data.toList.drop (i+1)).take k->digC x=true) (fun _ wr=>s.size - atOf wr R)
 case atStart=>exact⟨0,by omega,by omega,rfl,by simpa using (h1 _),n1 _,by simp⟩
 case round=>
  obtain⟨k,aC,hk,rfl,hr,aH,aB⟩:=hrel
  have aF:((s.data.toList.drop (i+1)).take k).length<=10:=by simp;omega
  have aI:=qhZ _ aB aF
  have d0:=hr.cell0
  have d1:=hr.cell1
  have d2:=hr.cell2
  have df:=hr.free 1
  have df2:=hr.free 2
  have HR:Hid (RdS wr R s (((i+1)+k:Nat):Int) bad/\Near R w wr):=⟨hr,aH⟩
  clear hr aH c0 c1 c2 f1 h HL h1 n1
  generalize hV:qcE ((s.data.toList.drop (i+1)).take k)=V at *
  generalize hj:(i+1)+k=j at *
  have HM:Hid (∀ m,Calls Tryz.prog 56 #[.pointer (some ⟨R,0,none⟩)] (wr.drewN m) fun e w'=>e=.returned (.int .u8 ((lookB s j).toNat:Int))/\∃ m',w'=wr.drewN m'):=fun m=>
   (qbL (wr.drewN m) R s j bad (HR.out.1.drewN m)).mono fun e w' ⟨he,k,hk⟩=>⟨he,m+k,by rw[hk,World.drewN_drewN]⟩
  have aE:Hid (Calls Tryz.prog 56 #[.pointer (some ⟨R,0,none⟩)] wr fun e w'=>e=.returned (.int .u8 ((lookB s j).toNat:Int))/\∃ m',w'=wr.drewN m'):=HM.out 0
  have aL:(0:Int)<=((lookB s j).toNat:Int):=by omega
  have aM:((lookB s j).toNat:Int)<=255:=by have:=(lookB s j).toNat_lt;omega
  by_cases hgo:digC (lookB s j)=true/\k<10
  ·obtain⟨aD,aS⟩:=hgo
   have aG:=qlS s j aD
   have HA:Hid (∀ x,x∈(s.data.toList.drop (i+1)).take (k+1)->digC x=true):=qhI s (i+1) k digC (by omega) aB (by rw[qeU s j aG]at aD;simpa only[hj] using aD)
   have HV:Hid (qcE ((s.data.toList.drop (i+1)).take (k+1))=V*10+((lookB s j).toNat - 48)):=by
    show _=_
    rw[qwB s (i+1) k (by omega),hV,qeU s j aG];simp only[hj]
   have q:=qgC aD
   have hw:IntKind.i64.wrap ((j:Int)+1)=(j:Int)+1:=by rw[IntKind.wrap_i64];omega
   clear aB aD
   generalize (lookB s j).toNat=c at *
   have q1:(48:Int)<=(c:Int):=by omega
   have q2:(c:Int)<=57:=by omega
   have q3:(j:Int)<((i:Int)+1)+10:=by omega
   have aJ:IntKind.i64.wrap (((i:Int)+1)+10)=((i:Int)+1)+10:=by rw[IntKind.wrap_i64];omega
   have aN:IntKind.i64.wrap ((V:Int)*10)=(V:Int)*10:=by rw[IntKind.wrap_i64];omega
   have aO:IntKind.u8.wrap ((c:Int) - 48)=(c:Int) - 48:=by rw[IntKind.wrap_u8];omega
   have aP:IntKind.i64.wrap ((c:Int) - 48)=(c:Int) - 48:=by rw[IntKind.wrap_i64];omega
   have aQ:IntKind.i64.wrap ((V:Int)*10+((c:Int) - 48))=(V:Int)*10+((c:Int) - 48):=by rw[IntKind.wrap_i64];omega
   go_wp2_with (go_at_call 56;(first|refine aE.out.mono ?_|refine (HM.out _).mono ?_);rintro e w' ⟨rfl,nq,rfl⟩)
   have HS:=fun nq=>((HR.out.1.drewN nq).set1 ((j:Int)+1))
   go_roundw
   case rel=>exact⟨k+1,by omega,by omega,by rw[HV.out];congr 1;omega,by rw[show (((i+1)+(k+1):Nat):Int)=(j:Int)+1 by omega];exact HS _,(HR.out.2.drewN _).trans (Near.set R 1 _ _),HA.out⟩
   case measure=>rw[(HS _).atOf,HR.out.1.atOf];omega
  ·have HX:Hid (k=10∨digC (lookB s j)=false):=by
    show _∨_
    cases aD:digC (lookB s j) with
    | false=>exact .inr rfl
    | true=>exact .inl (by have h9:¬ k<10:=fun h=>hgo ⟨aD,h⟩;omega)
   have HA:=hidF aB
   have aA:((lookB s j).toNat:Int)<48∨57<((lookB s j).toNat:Int)∨(48<=((lookB s j).toNat:Int)/\((lookB s j).toNat:Int)<=57/\k=10):=by
    rcases HX.out with h|h
    ·omega
    ·simp only[digC,decide_eq_false_iff_not]at h;omega
   have HV:=hidF hV
   have HJ:Hid ((i+1)+k=j):=hj
   have aR:IntKind.i64.wrap (-(V:Int)) = -(V:Int):=by rw[IntKind.wrap_i64];omega
   have aJ:IntKind.i64.wrap (((i:Int)+1)+10)=((i:Int)+1)+10:=by rw[IntKind.wrap_i64];omega
   have HZ:Hid (k=0∨¬ k=0):=Classical.em _
   have e0:k=0->(((j:Nat):Int)==((i:Int)+1))=true:=fun h=>by simp;omega
   have e1:¬ k=0->(((j:Nat):Int)==((i:Int)+1))=false:=fun h=>by simp;omega
   have e2:k=10->¬ ((j:Nat):Int)<((i:Int)+1)+10:=fun h=>by omega
   clear aB hgo hV hj
   generalize (lookB s j).toNat=c at *
   rcases HZ.out with hz|hz
   ·have e:=e0 hz
    have aK:¬ k=10:=by omega
    have HB:Hid ((bad || k==0)=true):=by show _=_;rw[hz];simp
    clear e0 e1 e2 hz HZ
    rcases aA with q1|q1|⟨q1,q2,q3⟩
    case inr.inr=>exact absurd q3 aK
    all_goals
     go_wp2_with (go_at_call 56;(first|refine aE.out.mono ?_|refine (HM.out _).mono ?_);rintro e w' ⟨rfl,nq,rfl⟩)
     go_ret
     refine⟨((HR.out.2.drewN _).trans (Near.set R 2 _ _)),k,aC,by rw[HJ.out];exact hk,HA.out,by rw[HJ.out];exact HX.out,by rw[HV.out];rfl,?_⟩
     rw[HB.out,HJ.out];exact (HR.out.1.drewN _).set2 true
   ·have e:=e1 hz
    have HB:Hid ((bad || k==0)=bad):=by show _=_;simp[hz]
    clear e0 e1 hz HZ
    rcases aA with q1|q1|⟨q1,q2,q3⟩
    case inr.inr=>
     have q4:=e2 q3
     clear e2 q3
     go_wp2_with (go_at_call 56;(first|refine aE.out.mono ?_|refine (HM.out _).mono ?_);rintro e w' ⟨rfl,nq,rfl⟩)
     go_ret
     refine⟨HR.out.2.drewN _,k,aC,by rw[HJ.out];exact hk,HA.out,by rw[HJ.out];exact HX.out,by rw[HV.out];rfl,?_⟩
     rw[HB.out,HJ.out];exact HR.out.1.drewN _
    all_goals
     clear e2
     go_wp2_with (go_at_call 56;(first|refine aE.out.mono ?_|refine (HM.out _).mono ?_);rintro e w' ⟨rfl,nq,rfl⟩)
     go_ret
     refine⟨HR.out.2.drewN _,k,aC,by rw[HJ.out];exact hk,HA.out,by rw[HJ.out];exact HX.out,by rw[HV.out];rfl,?_⟩
     rw[HB.out,HJ.out];exact HR.out.1.drewN _
theorem xiH (w:World) (R:Nat) (s:ByteArray) (i:Nat) (bad:Bool) (h:RdS w R s i bad) (hs:s.size<=10000) (hi:i<=s.size) (hneg:¬ lookB s i=45) :
  Calls Tryz.prog 73 #[.pointer (some ⟨R,0,none⟩)] w (quD w R s bad false i):=by
 have HL:Hid (Calls Tryz.prog 56 #[.pointer (some ⟨R,0,none⟩)] w fun e w'=>e=.returned (.int .u8 ((lookB s i).toNat:Int))/\∃ m',w'=w.drewN m'):=qbL w R s i bad h
 have aL:(((lookB s i).toNat:Int)==45)=false:=by
  rw[beq_eq_false_iff_ne]
  intro e;apply hneg;apply UInt8.toNat_inj.1
  have aM:(45:UInt8).toNat=45:=rfl
  omega
 have c0:=h.cell0
 have c1:=h.cell1
 have c2:=h.cell2
 have f1:=h.free 1
 have h1:=fun m=>h.drewN m
 have n1:∀ m,Near R w (w.drewN m):=fun m=>(Near.refl R w).drewN m
 go_enter Tryz.func73,Tryz.ntmps73
 go_wp2_with (go_at_call 56;refine HL.out.mono ?_;rintro e w' ⟨rfl,nq,rfl⟩)
 go_loopw [5] (fun v wr=>∃ k:Nat,k<=10/\i+k<=s.size/\v=.int .i64 (qcE ((s.data.toList.drop i).take k):Int)/\RdS wr R s ((i+k:Nat):Int) bad/\Near R w wr/\∀ x,x∈(s.data.toList.drop i).take k->digC x=true) (fun _ wr=>s.size - atOf wr R)
 case atStart=>exact⟨0,by omega,by omega,rfl,by simpa using (h1 _),n1 _,by simp⟩
 case round=>
  obtain⟨k,aC,hk,rfl,hr,aH,aB⟩:=hrel
  have aF:((s.data.toList.drop i).take k).length<=10:=by simp;omega
  have aI:=qhZ _ aB aF
  have d0:=hr.cell0
  have d1:=hr.cell1
  have d2:=hr.cell2
  have df:=hr.free 1
  have df2:=hr.free 2
  have HR:Hid (RdS wr R s ((i+k:Nat):Int) bad/\Near R w wr):=⟨hr,aH⟩
  clear hr aH c0 c1 c2 f1 h HL h1 n1
  generalize hV:qcE ((s.data.toList.drop i).take k)=V at *
  generalize hj:i+k=j at *
  have HM:Hid (∀ m,Calls Tryz.prog 56 #[.pointer (some ⟨R,0,none⟩)] (wr.drewN m) fun e w'=>e=.returned (.int .u8 ((lookB s j).toNat:Int))/\∃ m',w'=wr.drewN m'):=fun m=>
   (qbL (wr.drewN m) R s j bad (HR.out.1.drewN m)).mono fun e w' ⟨he,k,hk⟩=>⟨he,m+k,by rw[hk,World.drewN_drewN]⟩
  have aE:Hid (Calls Tryz.prog 56 #[.pointer (some ⟨R,0,none⟩)] wr fun e w'=>e=.returned (.int .u8 ((lookB s j).toNat:Int))/\∃ m',w'=wr.drewN m'):=HM.out 0
  have aN:(0:Int)<=((lookB s j).toNat:Int):=by omega
  have aO:((lookB s j).toNat:Int)<=255:=by have:=(lookB s j).toNat_lt;omega
  by_cases hgo:digC (lookB s j)=true/\k<10
  ·obtain⟨aD,aU⟩:=hgo
   have aG:=qlS s j aD
   have HA:Hid (∀ x,x∈(s.data.toList.drop i).take (k+1)->digC x=true):=qhI s i k digC (by omega) aB (by rw[qeU s j aG]at aD;simpa only[hj] using aD)
   have HV:Hid (qcE ((s.data.toList.drop i).take (k+1))=V*10+((lookB s j).toNat - 48)):=by
    show _=_
    rw[qwB s i k (by omega),hV,qeU s j aG];simp only[hj]
   have q:=qgC aD
   have hw:IntKind.i64.wrap ((j:Int)+1)=(j:Int)+1:=by rw[IntKind.wrap_i64];omega
   clear aB aD
   generalize (lookB s j).toNat=c at *
   have q1:(48:Int)<=(c:Int):=by omega
   have q2:(c:Int)<=57:=by omega
   have q3:(j:Int)<(i:Int)+10:=by omega
   have aJ:IntKind.i64.wrap ((i:Int)+10)=(i:Int)+10:=by rw[IntKind.wrap_i64];omega
   have aP:IntKind.i64.wrap ((V:Int)*10)=(V:Int)*10:=by rw[IntKind.wrap_i64];omega
   have aQ:IntKind.u8.wrap ((c:Int) - 48)=(c:Int) - 48:=by rw[IntKind.wrap_u8];omega
   have aR:IntKind.i64.wrap ((c:Int) - 48)=(c:Int) - 48:=by rw[IntKind.wrap_i64];omega
   have aS:IntKind.i64.wrap ((V:Int)*10+((c:Int) - 48))=(V:Int)*10+((c:Int) - 48):=by rw[IntKind.wrap_i64];omega
   go_wp2_with (go_at_call 56;(first|refine aE.out.mono ?_|refine (HM.out _).mono ?_);rintro e w' ⟨rfl,nq,rfl⟩)
   have HS:=fun nq=>((HR.out.1.drewN nq).set1 ((j:Int)+1))
   go_roundw
   case rel=>exact⟨k+1,by omega,by omega,by rw[HV.out];congr 1;omega,by rw[show ((i+(k+1):Nat):Int)=(j:Int)+1 by omega];exact HS _,(HR.out.2.drewN _).trans (Near.set R 1 _ _),HA.out⟩
   case measure=>rw[(HS _).atOf,HR.out.1.atOf];omega
  ·have HX:Hid (k=10∨digC (lookB s j)=false):=by
    show _∨_
    cases aD:digC (lookB s j) with
    | false=>exact .inr rfl
    | true=>exact .inl (by have h9:¬ k<10:=fun h=>hgo ⟨aD,h⟩;omega)
   have HA:=hidF aB
   have aA:((lookB s j).toNat:Int)<48∨57<((lookB s j).toNat:Int)∨(48<=((lookB s j).toNat:Int)/\((lookB s j).toNat:Int)<=57/\k=10):=by
    rcases HX.out with h|h
    ·omega
    ·simp only[digC,decide_eq_false_iff_not]at h;omega
   have HV:=hidF hV
   have HJ:Hid (i+k=j):=hj
   have aT:IntKind.i64.wrap (-(V:Int)) = -(V:Int):=by rw[IntKind.wrap_i64];omega
   have aJ:IntKind.i64.wrap ((i:Int)+10)=(i:Int)+10:=by rw[IntKind.wrap_i64];omega
   have HZ:Hid (k=0∨¬ k=0):=Classical.em _
   have e0:k=0->(((j:Nat):Int)==(i:Int))=true:=fun h=>by simp;omega
   have e1:¬ k=0->(((j:Nat):Int)==(i:Int))=false:=fun h=>by simp;omega
   have e2:k=10->¬ ((j:Nat):Int)<(i:Int)+10:=fun h=>by omega
   clear aB hgo hV hj
   generalize (lookB s j).toNat=c at *
   rcases HZ.out with hz|hz
   ·have e:=e0 hz
    have aK:¬ k=10:=by omega
    have HB:Hid ((bad || k==0)=true):=by show _=_;rw[hz];simp
    clear e0 e1 e2 hz HZ
    rcases aA with q1|q1|⟨q1,q2,q3⟩
    case inr.inr=>exact absurd q3 aK
    all_goals
     go_wp2_with (go_at_call 56;(first|refine aE.out.mono ?_|refine (HM.out _).mono ?_);rintro e w' ⟨rfl,nq,rfl⟩)
     go_ret
     refine⟨((HR.out.2.drewN _).trans (Near.set R 2 _ _)),k,aC,by rw[HJ.out];exact hk,HA.out,by rw[HJ.out];exact HX.out,by rw[HV.out];rfl,?_⟩
     rw[HB.out,HJ.out];exact (HR.out.1.drewN _).set2 true
   ·have e:=e1 hz
    have HB:Hid ((bad || k==0)=bad):=by show _=_;simp[hz]
    clear e0 e1 hz HZ
    rcases aA with q1|q1|⟨q1,q2,q3⟩
    case inr.inr=>
     have q4:=e2 q3
     clear e2 q3
     go_wp2_with (go_at_call 56;(first|refine aE.out.mono ?_|refine (HM.out _).mono ?_);rintro e w' ⟨rfl,nq,rfl⟩)
     go_ret
     refine⟨HR.out.2.drewN _,k,aC,by rw[HJ.out];exact hk,HA.out,by rw[HJ.out];exact HX.out,by rw[HV.out];rfl,?_⟩
     rw[HB.out,HJ.out];exact HR.out.1.drewN _
    all_goals
     clear e2
     go_wp2_with (go_at_call 56;(first|refine aE.out.mono ?_|refine (HM.out _).mono ?_);rintro e w' ⟨rfl,nq,rfl⟩)
     go_ret
     refine⟨HR.out.2.drewN _,k,aC,by rw[HJ.out];exact hk,HA.out,by rw[HJ.out];exact HX.out,by rw[HV.out];rfl,?_⟩
     rw[HB.out,HJ.out];exact HR.out.1.drewN _
end Go.Proofs.YtelogmjfekhmpaaGreatDoor
