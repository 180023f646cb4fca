import Derived.Test.YtelogmjfekhmpaaGreatDoorImplText3
import Derived.Test.YtelogmjfekhmpaaGreatDoorAsrt
namespace Go.Proofs.YtelogmjfekhmpaaGreatDoor
set_option maxRecDepth 100000
set_option maxHeartbeats 16000000
open Go.RowKit
theorem qnV (B:Nat) (w0 w:World) (v:Value) (l:List UInt8) (x:Int) (hb:Buf B w0 w v l) (h0 : -999999999<=x) (h1:x<=999999999) (hl:l.length<=20000) (hT:Tens B w) :
  Calls Tryz.prog 118 #[v,.iface 166 (.int .i64 x)] w fun e w'=>∃ v',e=.returned v' /\ Buf B w0 w' v' (l++Lib.itoa x):=by
 have aB:=Tryz.yes_num
 obtain⟨va,vn,vc,rfl⟩:=hb.shape
 have HQ:Hid (Calls Tryz.prog 148 _ w _):=xjO B w0 w _ l x (by omega) (by omega) hb (by omega) hT
 clear hb hT
 go_enter Tryz.func118,Tryz.ntmps118
 go_wp2_with fail
 refine HQ.out.mono ?_
 rintro e w1 ⟨v1,rfl,aA⟩
 obtain⟨va1,vn1,vc1,rfl⟩:=aA.shape
 have aC:Hid _:=aA
 clear aA HQ
 go_wp2_with fail
 go_ret
 exact⟨_,rfl,aC.out⟩
theorem qmV (B:Nat) (w0 w:World) (v:Value) (l:List UInt8) (x:ByteArray) (hb:Buf B w0 w v l) (hx:x.size<=60) (hl:l.length<=20000) :
  Calls Tryz.prog 118 #[v,.iface 167 (.string x)] w fun e w'=>∃ v',e=.returned v' /\ Buf B w0 w' v' (l++(34 :: x.data.toList++[34])):=by
 have aF:=Tryz.no_num_text
 have aG:=Tryz.yes_text
 obtain⟨va,vn,vc,rfl⟩:=hb.shape
 have aI:x.data.toList.length=x.size:=by simp
 have HB:Hid _:=hb
 clear hb
 go_enter Tryz.func118,Tryz.ntmps118
 go_wp2_with (at_builtin;refine qaX rfl (.tmp 21) (.tmp 22) rfl B (.slice va vn vc) _ rfl w0 w 34 34 rfl HB.out rfl (by omega) ?_;intro v1 w1 aA;obtain⟨va1,vn1,vc1,rfl⟩:=aA.shape;refine Hid.out ?_)
 refine Lib.hid ?_
 have aD:Hid _:=aA
 clear aA HB
 go_wp2_with (at_builtin;refine qcI rfl (.tmp 24) (.tmp 25) 167 rfl Tryz.underlying167 B (.slice va1 vn1 vc1) _ rfl w0 aD.out x rfl (by simp;omega) ?_;intro v2 w2 aB;obtain⟨va2,vn2,vc2,rfl⟩:=aB.shape;refine Hid.out ?_)
 refine Lib.hid ?_
 have aE:Hid _:=aB
 clear aB aD
 go_wp2_with (at_builtin;refine qaX rfl (.tmp 27) (.tmp 28) rfl B (.slice va2 vn2 vc2) _ rfl w0 w2 34 34 rfl aE.out rfl (by simp;omega) ?_;intro v3 w3 aC;obtain⟨va3,vn3,vc3,rfl⟩:=aC.shape;refine Hid.out ?_)
 refine Lib.hid ?_
 have aH:Hid _:=qcZ aC (l':=l++(34 :: x.data.toList++[34])) (by simp)
 clear aC aE
 go_wp2_with fail
 go_ret
 exact⟨_,rfl,aH.out⟩
theorem qtI (x:Bool) (w:World):Calls Tryz.prog 149 #[.bool x] w fun e w'=>e=.returned (.string (bs (if x=true then [121,101,115] else [110,111])))/\w=w':=by
 cases x
 all_goals
  go_enter Tryz.func149,Tryz.ntmps149
  go_wp2
  go_ret
  exact⟨rfl,rfl⟩
theorem qmW (B:Nat) (w0 w:World) (v:Value) (l:List UInt8) (x:Bool) (hb:Buf B w0 w v l) (hl:l.length<=20000) :
  Calls Tryz.prog 118 #[v,.iface 168 (.bool x)] w fun e w'=>∃ v',e=.returned v' /\ Buf B w0 w' v' (l++(if x=true then [121,101,115] else [110,111])):=by
 have aC:=Tryz.no_num_flag
 have aD:=Tryz.no_text_flag
 have aE:=Tryz.yes_flag
 obtain⟨va,vn,vc,rfl⟩:=hb.shape
 have HB:Hid _:=hb
 have aF:(if x=true then [121,101,115] else [110,111]:List UInt8).length<=3:=by split <;> simp
 have HE:Hid (∀ u:List UInt8,u=(if x=true then [121,101,115] else [110,111])->Buf B w0 w (.slice va vn vc) l):=fun _ _=>hb
 obtain⟨fw,aA⟩:∃ fw:List UInt8,fw=(if x=true then [121,101,115] else [110,111]):=⟨_,rfl⟩
 rw[<- aA]at aF ⊢
 have HQ:Hid (Calls Tryz.prog 149 #[.bool x] w fun e w'=>e=.returned (.string (bs fw))/\w=w'):=by rw[aA];exact qtI x w
 have aH:(bs fw).size=fw.length:=qaJ fw
 have aI:(bs fw).data.toList=fw:=qcC fw
 clear hb aA HE
 go_enter Tryz.func118,Tryz.ntmps118
 go_wp2_with fail
 refine HQ.out.mono ?_
 rintro e w1 ⟨rfl,rfl⟩
 go_wp2_with (at_builtin;refine qcI rfl (.tmp 33) (.tmp 35) 9 rfl Tryz.underlying9 B (.slice va vn vc) _ rfl w0 HB.out (bs fw) rfl (by omega) ?_;intro v2 w2 aB;obtain⟨va2,vn2,vc2,rfl⟩:=aB.shape;refine Hid.out ?_)
 refine Lib.hid ?_
 have aG:Hid _:=qcZ aB (l':=l++fw) (by rw[qcC])
 clear aB HB
 go_wp2_with fail
 go_ret
 exact⟨_,rfl,aG.out⟩
theorem qmX (B:Nat) (w0 w:World) (v:Value) (l r:List UInt8) (ka:Option Addr) (kl kc:Nat) (hb:Buf B w0 w v l) (HQ:Hid (Calls Tryz.prog 150 #[v,.slice ka kl kc] w fun e w'=>∃ v',e=.returned v' /\ Buf B w0 w' v' r)) :
  Calls Tryz.prog 118 #[v,.iface 170 (.slice ka kl kc)] w fun e w'=>∃ v',e=.returned v' /\ Buf B w0 w' v' r:=by
 have aB:=Tryz.no_num_list
 have aC:=Tryz.no_text_list
 have aD:=Tryz.no_flag_list
 have aE:=Tryz.yes_list
 obtain⟨va,vn,vc,rfl⟩:=hb.shape
 clear hb
 go_enter Tryz.func118,Tryz.ntmps118
 go_wp2_with fail
 refine HQ.out.mono ?_
 rintro e w1 ⟨v1,rfl,aA⟩
 obtain⟨va1,vn1,vc1,rfl⟩:=aA.shape
 have aF:Hid _:=aA
 clear aA HQ
 go_wp2_with fail
 go_ret
 exact⟨_,rfl,aF.out⟩
theorem qmY (B:Nat) (w0 w:World) (v:Value) (l r:List UInt8) (na ka:Option Addr) (nl nc kl kc:Nat) (hb:Buf B w0 w v l)
  (HQ:Hid (Calls Tryz.prog 151 #[v,.slice na nl nc,.slice ka kl kc,.func (.func 118) #[] #[]] (w.alloc (.cells #[.slice na nl nc,.slice ka kl kc] 173)) fun e w'=>∃ v',e=.returned v' /\ Buf B w0 w' v' r)) :
  Calls Tryz.prog 118 #[v,.iface 173 (.agg #[.slice na nl nc,.slice ka kl kc])] w fun e w'=>∃ v',e=.returned v' /\ Buf B w0 w' v' r:=by
 have aB:=Tryz.no_num_form
 have aC:=Tryz.no_text_form
 have aD:=Tryz.no_flag_form
 have aE:=Tryz.no_list_form
 have aF:=Tryz.yes_form
 obtain⟨va,vn,vc,rfl⟩:=hb.shape
 clear hb
 go_enter Tryz.func118,Tryz.ntmps118
 go_wp2_with fail
 refine HQ.out.mono ?_
 rintro e w1 ⟨v1,rfl,aA⟩
 obtain⟨va1,vn1,vc1,rfl⟩:=aA.shape
 have aG:Hid _:=aA
 clear aA HQ
 go_wp2_with fail
 go_ret
 exact⟨_,rfl,aG.out⟩
theorem qkZ (B:Nat) (w0 w:World) (v:Value) (l r:List UInt8) (ka:Option Addr) (kl kc:Nat) (hb:Buf B w0 w v l) (HQ:Hid (Calls Tryz.prog 152 #[v,.slice ka kl kc] w fun e w'=>∃ v',e=.returned v' /\ Buf B w0 w' v' r)) :
  Calls Tryz.prog 118 #[v,.iface 175 (.slice ka kl kc)] w fun e w'=>∃ v',e=.returned v' /\ Buf B w0 w' v' r:=by
 have aB:=Tryz.no_num_maybe
 have aC:=Tryz.no_text_maybe
 have aD:=Tryz.no_flag_maybe
 have aE:=Tryz.no_list_maybe
 have aF:=Tryz.no_form_maybe
 have aG:=Tryz.yes_maybe
 obtain⟨va,vn,vc,rfl⟩:=hb.shape
 clear hb
 go_enter Tryz.func118,Tryz.ntmps118
 go_wp2_with fail
 refine HQ.out.mono ?_
 rintro e w1 ⟨v1,rfl,aA⟩
 obtain⟨va1,vn1,vc1,rfl⟩:=aA.shape
 have aH:Hid _:=aA
 clear aA HQ
 go_wp2_with fail
 go_ret
 exact⟨_,rfl,aH.out⟩
end Go.Proofs.YtelogmjfekhmpaaGreatDoor
