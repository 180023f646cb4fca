import Derived.Test.YtelogmjfekhmpaaGreatDoorImplN
namespace Go.Proofs.YtelogmjfekhmpaaGreatDoor
set_option maxRecDepth 100000
set_option maxHeartbeats 16000000
open Go.RowKit
theorem qgO (S:Nat->Prop) (l:List ByteArray) (v:Value) (w:World) (hl:StrsIn S w l v) :
  Calls Tryz.prog 163 #[v] w fun e w'=>e=.returned (.bool (riseB l))/\w'=w:=by
 obtain⟨ao,cap,rfl,aF,hs,hc⟩:=hl
 unfold maxLen at aF
 go_enter Tryz.func163,Tryz.ntmps163
 go_wp2_with fail
 go_loop [7] (fun i=>∃ k:Nat,k<=l.length/\i=.int .i64 k/\qdU l k=true) (fun i=>l.length - (intOf i).toNat)
 case atStart=>exact⟨0,Nat.zero_le _,rfl,by simp[qdU]⟩
 case round=>
  obtain⟨k,hk,rfl,aD⟩:=hrel
  have HA:Hid (qdU l k=true):=aD
  clear aD
  by_cases aC:k<l.length
  ·obtain⟨b,off,rfl,aH,aA⟩:=hc (by intro h;rw[h]at aC;simp at aC)
   have f0:=aA k aC
   have aG:=hs l[k] (List.getElem_mem aC)
   have aB:l.getD k ByteArray.empty=l[k]:=by simp[List.getD,aC]
   cases hnm:nameB l[k] with
   | false=>
    have HF:Hid (riseB l=false):=qfO l k aC (by simp only[qdT,aB,hnm,Bool.false_and])
    have HC:Hid (∀ w,Calls Tryz.prog 106 #[.string l[k]] w fun e w'=>e=.returned (.bool false)/\w'=w):=fun w=>by rw[<- hnm];exact qgD _ w aG
    clear hc hs aA aB hnm
    generalize l[k]=s at *
    go_wp2_with (go_at_call 106;refine (HC.out _).mono ?_;rintro e w' ⟨rfl,rfl⟩)
    go_ret
    exact⟨qaD HF.out.symm,rfl⟩
   | true=>
    have HC:Hid (∀ w,Calls Tryz.prog 106 #[.string l[k]] w fun e w'=>e=.returned (.bool true)/\w'=w):=fun w=>by rw[<- hnm];exact qgD _ w aG
    rcases Nat.eq_zero_or_pos k with rfl|aI
    ·have HR:Hid (qdU l (0+1)=true):=by show _=_;rw[qgH,HA.out,qdT,aB,hnm];rfl
     clear hc hs aA aB hnm
     rw[Nat.add_zero]at f0
     generalize l[0]=s at *
     go_wp2_with (go_at_call 106;refine (HC.out _).mono ?_;rintro e w' ⟨rfl,rfl⟩)
     go_round
     case rel=>exact⟨0+1,by omega,by go_num,HR.out⟩
     case measure=>simp[intOf];omega
    ·obtain⟨j,rfl⟩:∃ j,k=j+1:=⟨k - 1,by omega⟩
     have f1:=aA j (by omega)
     have aE:l.getD j ByteArray.empty=l[j]:=by simp[List.getD,show j<l.length by omega]
     cases hlt':ltB l[j] l[j+1] with
     | false=>
      have HF:Hid (riseB l=false):=qfO l (j+1) aC (by simp only[qdT,aB,Nat.add_sub_cancel,aE,hlt'];simp)
      unfold ltB at hlt'
      clear hc hs aA aB aE hnm
      generalize l[j]=r at *
      generalize l[j+1]=s at *
      go_wp2_with (go_at_call 106;refine (HC.out _).mono ?_;rintro e w' ⟨rfl,rfl⟩)
      go_ret
      exact⟨qaD HF.out.symm,rfl⟩
     | true=>
      have HR:Hid (qdU l (j+1+1)=true):=by show _=_;rw[qgH,HA.out,qdT,aB,hnm,Nat.add_sub_cancel,aE,hlt'];simp
      unfold ltB at hlt'
      clear hc hs aA aB aE hnm
      generalize l[j]=r at *
      generalize l[j+1]=s at *
      go_wp2_with (go_at_call 106;refine (HC.out _).mono ?_;rintro e w' ⟨rfl,rfl⟩)
      go_round
      case rel=>exact⟨j+1+1,by omega,by go_num,HR.out⟩
      case measure=>simp[intOf];omega
  ·have HF:Hid (riseB l=true):=by show _=_;rw[riseB,show l.length=k by omega];exact HA.out
   clear hc hs
   go_wp2_with fail
   go_ret
   exact⟨qaD HF.out.symm,rfl⟩
end Go.Proofs.YtelogmjfekhmpaaGreatDoor
