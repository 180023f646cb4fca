import Derived.Test.YtelogmjfekhmpaaGreatDoorSpecN
namespace Go.Proofs.YtelogmjfekhmpaaGreatDoor
set_option maxRecDepth 100000
set_option maxHeartbeats 16000000
open Go.RowKit
theorem qrU (s:ByteArray) (w:World) (hs:s.size<=maxLen):Calls Tryz.prog 120 #[.string s] w fun e w'=>e=.returned (.bool (textB s))/\w'=w:=by
 unfold maxLen at hs
 by_cases hl:s.size<=60
 ·go_enter Tryz.func120,Tryz.ntmps120
  go_wp2
  go_loop [3] (fun i=>∃ k:Nat,k<=s.size/\i=.int .i64 k/\(s.data.toList.take k).all qgR=true) (fun i=>s.size - (intOf i).toNat)
  case atStart=>exact⟨0,Nat.zero_le _,rfl,by simp⟩
  case round=>
   obtain⟨k,hk,rfl,aA⟩:=hrel
   have HA:=hidF aA
   clear aA
   by_cases hlt:k<s.size
   ·cases hb:qgR s[k] with
    | true=>
     have HB:Hid (qgR s[k]=true):=hb
     unfold qgR at hb
     rw[decide_eq_true_eq]at hb
     obtain⟨h1,h2,h3⟩:=hb
     have aB:((s[k].toNat:Int)==34)=false:=by simpa using h3
     clear h3
     go_wp2
     go_round
     case rel=>exact⟨k+1,by omega,by go_num,qdV k hlt HA.out HB.out⟩
     case measure=>simp[intOf];omega
    | false=>
     have HF:Hid (textB s=false):=by show _=_;rw[textB,qfP k hlt hb];simp
     unfold qgR at hb
     rw[decide_eq_false_iff_not]at hb
     go_wp2
     all_goals first
      | (go_ret;exact⟨qbN HF.out.symm,rfl⟩)
      | (exfalso;apply hb;simp_all)
   ·have HF:Hid (textB s=true):=by show _=_;rw[textB,qfQ k (by omega) HA.out];simp[hl]
    go_wp2
    go_ret
    exact⟨qbN HF.out.symm,rfl⟩
 ·go_enter Tryz.func120,Tryz.ntmps120
  go_wp2
  go_ret
  exact⟨qbN (by simp[textB,hl]),rfl⟩
end Go.Proofs.YtelogmjfekhmpaaGreatDoor
