import Derived.Test.YtelogmjfekhmpaaGreatDoorPlain2
import Derived.Test.YtelogmjfekhmpaaGreatDoorRet
namespace Go.Proofs.YtelogmjfekhmpaaGreatDoor
set_option maxRecDepth 100000
set_option maxHeartbeats 16000000
open Go.RowKit
theorem qaD {a b:Bool} (h:a=b):Ending.returned (.bool a)=.returned (.bool b):=by rw[h]
def digB (n:Int):Bool:=decide (48<=n/\n<=57)
theorem qdO (x:Int) (w:World) (_h0:0<=x) (_h1:x<=255):Calls Tryz.prog 139 #[.int .u8 x] w fun e w'=>e=.returned (.bool (digB x))/\w'=w:=by
 by_cases h:48<=x <;> by_cases h2:x<=57
 all_goals
  go_enter Tryz.func139,Tryz.ntmps139
  go_wp2
  go_ret
  exact⟨qaD (by simp[digB,h,h2];try omega),rfl⟩
theorem xiK (s:ByteArray) (h:0<s.size):s.data.toList.headD 0=s[0]:=by
 cases hx:s.data.toList with
 | nil=>have:=congrArg List.length hx;simp at this;simp[this]at h
 | cons a r=>simp[ByteArray.getElem_eq_getElem_data,<- Array.getElem_toList,hx]
theorem qxS (c:UInt8) (h:qaV c=true):qlN c = !digB c.toNat:=by
 unfold qaV at h
 rw[decide_eq_true_eq]at h
 unfold qlN digB
 rcases h with h|h
 ·rw[decide_eq_true h,decide_eq_false (by omega)];rfl
 ·rw[decide_eq_false (by omega),decide_eq_true h];rfl
theorem xfW (s:ByteArray) (h1:1<=s.size) (h2:s.size<=8):nameB s=(!digB (s[0].toNat:Int) && s.data.toList.all qaV):=by
 unfold nameB
 rw[xiK s (by omega)]
 cases hall:s.data.toList.all qaV with
 | false=>simp
 | true=>
  have h0:qaV s[0]=true:=List.all_eq_true.1 hall _ (by simp[ByteArray.getElem_eq_getElem_data])
  rw[qxS _ h0];simp[h1,h2]
theorem qgD (s:ByteArray) (w:World) (hs:s.size<=maxLen):Calls Tryz.prog 106 #[.string s] w fun e w'=>e=.returned (.bool (nameB s))/\w'=w:=by
 unfold maxLen at hs
 by_cases hl:1<=s.size/\s.size<=8
 ·obtain⟨aG,aH⟩:=hl
  have HN:Hid (nameB s=(!digB (s[0].toNat:Int) && s.data.toList.all qaV)):=xfW s aG aH
  have aE:∀ k (h:k<s.size),(s[k].toNat:Int)<=255:=fun k h=>by have:=s[k].toNat_lt;omega
  have aB:=aE 0 (by omega)
  cases hd:digB (s[0].toNat:Int) with
  | true=>
   have HF:Hid (nameB s=false):=by show _=_;rw[HN.out,hd];simp
   clear aE
   go_enter Tryz.func106,Tryz.ntmps106
   go_wp2_with fail
   refine (qdO _ _ (by omega) aB).mono ?_
   rintro e w' ⟨rfl,rfl⟩
   rw[hd]
   go_wp2_with fail
   go_ret
   exact⟨qaD HF.out.symm,rfl⟩
  | false=>
   have HD:=hidF hd
   have HU:=hidF aE
   clear aE hd
   go_enter Tryz.func106,Tryz.ntmps106
   go_wp2_with fail
   refine (qdO _ _ (by omega) aB).mono ?_
   rintro e w' ⟨rfl,rfl⟩
   rw[HD.out]
   go_wp2_with fail
   go_loop [19] (fun i=>∃ k:Nat,k<=s.size/\i=.int .i64 k/\(s.data.toList.take k).all qaV=true) (fun i=>s.size - (intOf i).toNat)
   case atStart=>exact⟨0,Nat.zero_le _,rfl,by simp⟩
   case round=>
    obtain⟨k,hk,rfl,aD⟩:=hrel
    have HA:=hidF aD
    clear aD
    by_cases hlt:k<s.size
    ·have aF:=HU.out k hlt
     have aA:Hid (digB (s[k].toNat:Int)=decide (48<=(s[k].toNat:Int)/\(s[k].toNat:Int)<=57)):=rfl
     cases hb:qaV s[k] with
     | true=>
      have HB:Hid (qaV s[k]=true):=hb
      unfold qaV at hb
      rw[decide_eq_true_eq]at hb
      rcases hb with ⟨h1,h2⟩|⟨h1,h2⟩
      ·have aC:digB (s[k].toNat:Int)=false:=by rw[aA.out];exact decide_eq_false (by omega)
       go_wp2_with (go_at_call 139;refine (qdO _ _ (by omega) aF).mono ?_;rintro e w' ⟨rfl,rfl⟩;rw[aC])
       go_round
       case rel=>exact⟨k+1,by omega,by go_num,qdV k hlt HA.out HB.out⟩
       case measure=>simp[intOf];omega
      ·have aC:digB (s[k].toNat:Int)=true:=by rw[aA.out];exact decide_eq_true ⟨by omega,by omega⟩
       go_wp2_with (go_at_call 139;refine (qdO _ _ (by omega) aF).mono ?_;rintro e w' ⟨rfl,rfl⟩;rw[aC])
       go_round
       case rel=>exact⟨k+1,by omega,by go_num,qdV k hlt HA.out HB.out⟩
       case measure=>simp[intOf];omega
     | false=>
      have HF:Hid (nameB s=false):=by show _=_;rw[nameB,qfP k hlt hb];simp
      unfold qaV at hb
      rw[decide_eq_false_iff_not]at hb
      have aC:digB (s[k].toNat:Int)=false:=by rw[aA.out];exact decide_eq_false (by omega)
      rcases (show (s[k].toNat:Int)<97∨122<(s[k].toNat:Int) by omega) with h1|h1
      all_goals
       clear hb
       go_wp2_with (go_at_call 139;refine (qdO _ _ (by omega) aF).mono ?_;rintro e w' ⟨rfl,rfl⟩;rw[aC])
       go_ret
       exact⟨qaD HF.out.symm,rfl⟩
    ·have HF:Hid (nameB s=true):=by show _=_;rw[HN.out,HD.out,qfQ k (by omega) HA.out];simp
     go_wp2_with fail
     go_ret
     exact⟨qaD HF.out.symm,rfl⟩
 ·have HF:Hid (nameB s=false):=by show _=_;rw[nameB,decide_eq_false hl];simp
  rcases (show s.size<1∨8<s.size by omega) with h1|h1
  all_goals
   clear hl
   go_enter Tryz.func106,Tryz.ntmps106
   go_wp2_with fail
   go_ret
   exact⟨qaD HF.out.symm,rfl⟩
end Go.Proofs.YtelogmjfekhmpaaGreatDoor
