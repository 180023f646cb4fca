import Derived.Test.YtelogmjfekhmpaaGreatDoorPlain2
import Derived.Deep.RegionWith
import Derived.Deep.QuietTactic
import Derived.BigQuiet
namespace Go.Proofs.YtelogmjfekhmpaaGreatDoor
set_option maxRecDepth 100000
set_option maxHeartbeats 16000000
open Go.RowKit
theorem qbN {a b:Bool} (h:a=b):Ending.returned (.bool a)=.returned (.bool b):=by rw[h]
theorem qcL (x a b:Int) (w:World):Calls Tryz.prog 45 #[.int .i64 x,.int .i64 a,.int .i64 b] w fun e w'=>e=.returned (.bool (decide (a<=x/\x<=b)))/\w'=w:=by
 by_cases h:a<=x <;> by_cases h2:x<=b
 all_goals
  go_enter Tryz.func45,Tryz.ntmps45
  go_wp2
  go_ret
  exact⟨qbN (by simp[h,h2];try omega),rfl⟩
theorem qdR (s:ByteArray) (w:World) (hs:s.size<=maxLen):Calls Tryz.prog 40 #[.string s] w fun e w'=>e=.returned (.bool (nameB s))/\w'=w:=by
 unfold maxLen at hs
 by_cases hl:1<=s.size/\s.size<=8
 ·obtain⟨aC,aD⟩:=hl
  have hd:decide ((1:Int)<=(s.size:Int)/\(s.size:Int)<=8)=true:=decide_eq_true ⟨by omega,by omega⟩
  have aB:s.data.toList.headD 0=s[0]:=by
   cases hx:s.data.toList with
   | nil=>have:=congrArg List.length hx;simp at this;simp[this]at aC
   | cons a r=>simp[ByteArray.getElem_eq_getElem_data,<- Array.getElem_toList,hx]
  cases hu:qlN s[0] with
  | false=>
   have HF:Hid (nameB s=false):=by show _=_;rw[nameB,aB,hu];simp
   unfold qlN at hu
   rw[decide_eq_false_iff_not]at hu
   clear aB
   go_enter Tryz.func40,Tryz.ntmps40
   go_wp2_with (go_at_call 45;refine (qcL _ _ _ _).mono ?_;rintro e w' ⟨rfl,rfl⟩;rw[hd])
   all_goals
    go_ret
    exact⟨qbN HF.out.symm,rfl⟩
  | true=>
   have HH:Hid (s.data.toList.headD 0=s[0]/\qlN s[0]=true):=⟨aB,hu⟩
   unfold qlN at hu
   rw[decide_eq_true_eq]at hu
   obtain⟨aE,aF⟩:=hu
   clear aB
   go_enter Tryz.func40,Tryz.ntmps40
   go_wp2_with (go_at_call 45;refine (qcL _ _ _ _).mono ?_;rintro e w' ⟨rfl,rfl⟩;rw[hd])
   go_loop [3] (fun i=>∃ k:Nat,k<=s.size/\i=.int .i64 k/\(s.data.toList.take k).all qaV=true) (fun i=>s.size - (intOf i).toNat)
   case atStart=>exact⟨0,Nat.zero_le _,rfl,by simp⟩
   case round=>
    obtain⟨k,hk,rfl,aA⟩:=hrel
    have HA:=hidF aA
    clear aA
    by_cases hlt:k<s.size
    ·cases hb:qaV s[k] with
     | true=>
      have HB:Hid (qaV s[k]=true):=hb
      unfold qaV at hb
      rw[decide_eq_true_eq]at hb
      rcases hb with ⟨h1,h2⟩|⟨h1,h2⟩
      all_goals
       go_wp2
       go_round
       case rel=>exact⟨k+1,by omega,by go_num,qdV k hlt HA.out HB.out⟩
       case measure=>simp[intOf];omega
     | false=>
      have HF:Hid (nameB s=false):=by show _=_;rw[nameB,qfP k hlt hb];simp
      unfold qaV at hb
      rw[decide_eq_false_iff_not]at hb
      rcases (show (s[k].toNat:Int)<48∨(57<(s[k].toNat:Int)/\(s[k].toNat:Int)<97)∨122<(s[k].toNat:Int) by omega) with h1|⟨h1,h2⟩|h1
      all_goals
       clear hb
       go_wp2
       all_goals first
        | (go_ret;exact⟨qbN HF.out.symm,rfl⟩)
        | (exfalso;rename_i h;simp at h;omega)
    ·have HF:Hid (nameB s=true):=by show _=_;rw[nameB,HH.out.1,HH.out.2,qfQ k (by omega) HA.out];simp[aC,aD]
     go_wp2
     go_ret
     exact⟨qbN HF.out.symm,rfl⟩
 ·have hd:decide ((1:Int)<=(s.size:Int)/\(s.size:Int)<=8)=false:=decide_eq_false (by omega)
  have HF:Hid (nameB s=false):=by show _=_;rw[nameB,decide_eq_false hl];simp
  go_enter Tryz.func40,Tryz.ntmps40
  go_wp2_with (go_at_call 45;refine (qcL _ _ _ _).mono ?_;rintro e w' ⟨rfl,rfl⟩;rw[hd])
  go_ret
  exact⟨qbN HF.out.symm,rfl⟩
theorem qkB (S:Nat->Prop) (l:List ByteArray) (v:Value) (w:World) (hl:StrsIn S w l v) (hB:∀ b,S b->b<w.heap.size) :
  Calls Tryz.prog 75 #[v] w fun e w'=>e=.returned (.bool (riseB l))/\Below w.heap.size w w':=by
 obtain⟨ao,cap,rfl,aG,hs,hc⟩:=hl
 unfold maxLen at aG
 go_enter Tryz.func75,Tryz.ntmps75
 go_wp2_with fail
 go_loopw [3] (fun i wr=>∃ k:Nat,k<=l.length/\i=.int .i64 k/\qdU l k=true/\Below w.heap.size w wr) (fun i _=>l.length - (intOf i).toNat)
 case atStart=>exact⟨0,Nat.zero_le _,rfl,by simp[qdU],Below.refl _ _⟩
 case round=>
  obtain⟨k,hk,rfl,aE,aB⟩:=hrel
  have HA:Hid (qdU l k=true):=aE
  clear aE
  by_cases aD:k<l.length
  ·obtain⟨b,off,rfl,aI,aA⟩:=hc (by intro h;rw[h]at aD;simp at aD)
   have f0:=(aB.cell (p:=⟨b,off+k,none⟩) (hB b aI)).trans (aA k aD)
   have aH:=hs l[k] (List.getElem_mem aD)
   have aC:l.getD k ByteArray.empty=l[k]:=by simp[List.getD,aD]
   cases hnm:nameB l[k] with
   | false=>
    have HF:Hid (riseB l=false):=qfO l k aD (by simp only[qdT,aC,hnm,Bool.false_and])
    have HC:Hid (∀ w,Calls Tryz.prog 40 #[.string l[k]] w fun e w'=>e=.returned (.bool false)/\w'=w):=fun w=>by rw[<- hnm];exact qdR _ w aH
    clear hc hs aA aC hnm
    generalize l[k]=s at *
    go_wp2_with fail
    go_quiet ((go_at_call 40;exact Calls.quiet_of_same (HC.out _)))
    go_wp2_with fail
    go_ret
    exact⟨qbN HF.out.symm,below_drewN aB _⟩
   | true=>
    have HC:Hid (∀ w,Calls Tryz.prog 40 #[.string l[k]] w fun e w'=>e=.returned (.bool true)/\w'=w):=fun w=>by rw[<- hnm];exact qdR _ w aH
    rcases Nat.eq_zero_or_pos k with rfl|aK
    ·have HR:Hid (qdU l (0+1)=true):=by show _=_;rw[qgH,HA.out,qdT,aC,hnm];rfl
     clear hc hs aA aC hnm
     rw[Nat.add_zero]at f0
     generalize l[0]=s at *
     go_wp2_with fail
     go_quiet ((go_at_call 40;exact Calls.quiet_of_same (HC.out _)))
     go_wp2_with fail
     go_roundw
     case rel=>exact⟨0+1,by omega,by go_num,HR.out,below_drewN aB _⟩
     case measure=>simp[intOf];omega
    ·obtain⟨j,rfl⟩:∃ j,k=j+1:=⟨k - 1,by omega⟩
     have f1:=(aB.cell (p:=⟨b,off+j,none⟩) (hB b aI)).trans (aA j (by omega))
     have aF:l.getD j ByteArray.empty=l[j]:=by simp[List.getD,show j<l.length by omega]
     have aJ:decide ((0:Int)<((j+1:Nat):Int))=true:=decide_eq_true (by omega)
     cases hlt':ltB l[j] l[j+1] with
     | false=>
      have HF:Hid (riseB l=false):=qfO l (j+1) aD (by simp only[qdT,aC,Nat.add_sub_cancel,aF,hlt'];simp)
      unfold ltB at hlt'
      clear hc hs aA aC aF hnm
      generalize l[j]=r at *
      generalize l[j+1]=s at *
      go_wp2_with fail
      go_quiet ((go_at_call 40;exact Calls.quiet_of_same (HC.out _)))
      go_wp2_with fail
      go_ret
      exact⟨qbN HF.out.symm,below_drewN aB _⟩
     | true=>
      have HR:Hid (qdU l (j+1+1)=true):=by show _=_;rw[qgH,HA.out,qdT,aC,hnm,Nat.add_sub_cancel,aF,hlt'];simp
      unfold ltB at hlt'
      clear hc hs aA aC aF hnm
      generalize l[j]=r at *
      generalize l[j+1]=s at *
      go_wp2_with fail
      go_quiet ((go_at_call 40;exact Calls.quiet_of_same (HC.out _)))
      go_wp2_with fail
      go_roundw
      case rel=>exact⟨j+1+1,by omega,by go_num,HR.out,below_drewN aB _⟩
      case measure=>simp[intOf];omega
  ·have HF:Hid (riseB l=true):=by show _=_;rw[riseB,show l.length=k by omega];exact HA.out
   clear hc hs
   go_wp2_with fail
   go_ret
   exact⟨qbN HF.out.symm,aB⟩
end Go.Proofs.YtelogmjfekhmpaaGreatDoor
