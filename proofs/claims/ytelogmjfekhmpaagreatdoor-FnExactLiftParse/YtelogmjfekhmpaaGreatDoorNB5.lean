import Derived.Test.YtelogmjfekhmpaaGreatDoorNB4
namespace Go.Proofs.YtelogmjfekhmpaaGreatDoor
set_option maxRecDepth 100000
set_option maxHeartbeats 16000000
open Go.RowKit
theorem qmE (S:Nat->Prop) (l:List ByteArray) (i:Nat) (hi:i<l.length) (v:Value) (w:World) (hl:StrsIn S w (l.take i) v) (hs:l[i].size<=maxLen) :
  Calls Tryz.prog 115 #[.string l[i],v] w fun e w'=>e=.returned (.bool (qcO l i))/\w'=w:=by
 obtain⟨ao,cap,rfl,aD,-,hc⟩:=hl
 have aE:(l.take i).length=i:=by simp;omega
 rw[aE]at aD ⊢
 unfold maxLen at aD
 have aF:l.getD i ByteArray.empty=l[i]:=by simp[List.getD,hi]
 have HF:Hid (qcO l i=(nameB l[i] && (i==0 || ltB (l.getD (i - 1) ByteArray.empty) l[i]) && !(l[i]==bs [101,110,100]))):=by
  show _=_
  unfold qcO qdT
  rw[aF]
 have aC:Hid (Calls Tryz.prog 106 _ _ _):=qgD l[i] w hs
 have e1:=qiT l[i] [101,110,100]
 have aA:0<i->∃ b off,ao=some ⟨b,off,none⟩/\w.cell? ⟨b,off+(i - 1),none⟩=some (.string (l.getD (i - 1) ByteArray.empty)):=fun h0=>by
  obtain⟨b,off,ha,-,aB⟩:=hc (by intro e;have:=congrArg List.length e;rw[aE]at this;simp at this;omega)
  refine⟨b,off,ha,?_⟩
  have:=aB (i - 1) (by omega)
  rw[this]
  have hj:i - 1<l.length:=by omega
  simp[List.getD,hj]
 clear hc aF
 generalize l[i]=s at *
 generalize l.getD (i - 1) ByteArray.empty=z at *
 generalize (s==bs [101,110,100])=b1 at *
 clear hi
 cases hn:nameB s with
 | false=>
  rw[hn]at aC HF
  go_enter Tryz.func115,Tryz.ntmps115
  go_wp2_with fail
  refine aC.out.mono ?_
  rintro e w1 ⟨rfl,rfl⟩
  go_wp2_with fail
  go_ret
  exact⟨qaD (by rw[HF.out];rfl),rfl⟩
 | true=>
  rw[hn]at aC HF
  cases b1 with
  | true=>
   go_enter Tryz.func115,Tryz.ntmps115
   go_wp2_with fail
   refine aC.out.mono ?_
   rintro e w1 ⟨rfl,rfl⟩
   go_wp2_with fail
   go_ret
   exact⟨qaD (by rw[HF.out];simp),rfl⟩
  | false=>
   rcases Nat.eq_zero_or_pos i with h0|h0
   ·subst h0
    go_enter Tryz.func115,Tryz.ntmps115
    go_wp2_with fail
    refine aC.out.mono ?_
    rintro e w1 ⟨rfl,rfl⟩
    go_wp2_with fail
    go_ret
    exact⟨qaD (by rw[HF.out];rfl),rfl⟩
   ·obtain⟨b,off,rfl,aB⟩:=aA h0
    have h1:((i:Int)==0)=false:=by simp;omega
    have h2:(i==0)=false:=by simp;omega
    rw[h2]at HF
    have aG:((i:Int) - 1).toNat=i - 1:=by omega
    have HZ:Hid (ltB z s=Op.bytesLess z.toList s.toList):=rfl
    clear h2 aA
    generalize hzs:Op.bytesLess z.toList s.toList=lt at *
    go_enter Tryz.func115,Tryz.ntmps115
    go_wp2_with fail
    refine aC.out.mono ?_
    rintro e w1 ⟨rfl,rfl⟩
    go_wp2_with fail
    go_ret
    exact⟨qaD (by rw[HF.out,HZ.out];simp),rfl⟩
end Go.Proofs.YtelogmjfekhmpaaGreatDoor
