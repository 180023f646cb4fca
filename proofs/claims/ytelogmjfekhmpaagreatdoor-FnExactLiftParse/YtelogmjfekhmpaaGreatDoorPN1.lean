import Derived.Test.YtelogmjfekhmpaaGreatDoorPN0
import Derived.Test.YtelogmjfekhmpaaGreatDoorCopyN
import Derived.Test.YtelogmjfekhmpaaGreatDoorTImplRead
namespace Go.Proofs.YtelogmjfekhmpaaGreatDoor
set_option maxRecDepth 100000
set_option maxHeartbeats 16000000
open Go.RowKit
theorem qfL {w:World} {R bk:Nat} {wv:Value} {ws:List ByteArray} {a c:Nat} (h:Rdr w R bk wv ws a c) (ha:a<ws.length) :
  Calls Tryz.prog 68 #[.pointer (some ⟨R,0,none⟩)] w fun e w'=>e=.returned (.string ws[a])/\Near R w w' /\ Rdr w' R bk wv ws (a+1) c:=by
 have aC:=h.few
 have HW:=Lib.hid (qgF h ha)
 have HC:Hid (∀ n,Calls Tryz.prog 85 #[.string ws[a]] (w.drewN n) fun e w'=>e=.returned (.string ws[a])/\Near R w w' /\ Rdr w' R bk wv ws a c):=fun n=>by
  refine (qeO ws[a] (w.drewN n) (by have:=h.short _ (List.getElem_mem ha);omega)).mono ?_
  rintro e w' ⟨rfl,hb⟩
  exact⟨rfl,(qaK (Near.refl R w) n).trans (Near.of_below hb),(h.drewN n).same hb⟩
 generalize ws[a]=s at *
 clear h
 go_enter Tryz.func68,Tryz.ntmps68
 go_wp2_with fail
 refine HW.out.mono ?_
 rintro e w1 ⟨rfl,n,rfl⟩
 go_wp2_with fail
 refine (HC.out n).mono ?_
 rintro e w2 ⟨rfl,aB,aA⟩
 obtain⟨⟨c0,c1,c2,c3⟩,f2,f3⟩:=aA.cells
 have hw:IntKind.i64.wrap ((a:Int)+1)=(a:Int)+1:=by rw[IntKind.wrap_i64];omega
 have HF:Hid (Near R w (w2.setCell ⟨R,2,none⟩ (.int .i64 ((a:Int)+1)))/\Rdr (w2.setCell ⟨R,2,none⟩ (.int .i64 ((a:Int)+1))) R bk wv ws (a+1) c):=⟨aB.trans (Near.set R 2 _ _),aA.setAt (a+1)⟩
 clear aB aA HC HW
 go_wp2_with fail
 go_ret
 exact⟨rfl,HF.out⟩
theorem qjM (M:Nat) (s:ByteArray):(∃ t:T (M+1),readT (M+1) s=some t/\okU M s=true/\ansU M s=t/\((Nd.sort t<=3/\leafW M s=some (Nd.sort t,Nd.num t,Nd.text t))∨(¬ Nd.sort t<=3/\leafW M s=none)))∨(readT (M+1) s=none/\okU M s=false/\leafW M s=none):=by
 cases hr:readT (M+1) s with
 | none=>exact .inr ⟨rfl,(qlX hr).2,by unfold leafW;rw[hr]⟩
 | some t=>
  refine .inl ⟨t,rfl,(qiS hr).2,(qiS hr).1,?_⟩
  by_cases h3:Nd.sort t<=3
  ·exact .inl ⟨h3,by unfold leafW;rw[hr];dsimp only;rw[if_pos h3]⟩
  ·exact .inr ⟨h3,by unfold leafW;rw[hr];dsimp only;rw[if_neg h3]⟩
theorem qwT {M:Nat} {s:ByteArray} {t:T (M+1)} (hr:readT (M+1) s=some t):1<=Nd.sort t:=by
 by_cases h3:Nd.sort t<=3
 ·have:=qcW (M:=M) (s:=s) (l:=(Nd.sort t,Nd.num t,Nd.text t)) (by unfold leafW;rw[hr];dsimp only;rw[if_pos h3])
  exact this.1
 ·omega
theorem quZ (M B bk:Nat) (s:ByteArray) (w:World) (hbk:Book w bk) (hs:s.size<=3000) (hM:3000<=M) (hL:LaidU B w) (hB:B<=w.heap.size) :
  Calls Tryz.prog 65 #[.pointer (some ⟨bk,0,none⟩),.string s] w fun e w'=>e=.returned (.int .i64 (opA M s:Nat))/\Below w.heap.size w w':=by
 have aG:=hbk.lt
 have HO:=Lib.hid (qkQ bk s w hbk)
 have HT:Hid (Calls Tryz.prog 83 #[.string s] w (qfK (M+1) (ansU M s) (okU M s) w)):=qjL s M B (by omega) (by omega) w hL hB
 have HV:Hid (∀ w',Below w.heap.size w w'->Calls Tryz.prog 84 #[.pointer (some ⟨bk,0,none⟩),.string s] w' fun e w''=>e=.returned (.bool (freeB s))/\w''=w'):=fun w' hb=>qgS bk s w' (by unfold maxLen;omega) (hbk.keep (hb.block bk aG))
 have HA:Hid (opA M s=if opW s=0 then (match leafW M s with|some l=>l.1.toNat|none=>if freeB s=true then 4 else 0) else opW s):=rfl
 clear hbk hL
 by_cases h0:opW s=0
 case neg=>
  rw[if_neg h0]at HA
  have aJ:((opW s:Int) != 0)=true:=by simp;omega
  generalize opW s=k at *
  clear h0
  go_enter Tryz.func65,Tryz.ntmps65
  go_wp2_with fail
  refine HO.out.mono ?_
  rintro e w1 ⟨rfl,rfl⟩
  go_wp2_with fail
  go_ret
  exact⟨qaN (by rw[HA.out]),Below.refl _ _⟩
 rw[h0]at HA HO
 rw[if_pos rfl]at HA
 clear h0
 rcases qjM M s with ⟨t,hr,aF,aH,aC⟩|⟨hr,aF,aC⟩
 ·have aK:=qwT hr
  rw[aF,aH]at HT
  clear aF aH hr
  rcases aC with ⟨h3,aC⟩|⟨h3,aC⟩
  ·rw[aC]at HA
   have aI:Hid ((opA M s:Int)=Nd.sort t):=by show _=_;rw[HA.out];exact Int.toNat_of_nonneg (by omega)
   clear HA aC
   go_enter Tryz.func65,Tryz.ntmps65
   go_wp2_with fail
   refine HO.out.mono ?_
   rintro e w1 ⟨rfl,rfl⟩
   go_wp2_with fail
   refine HT.out.mono ?_
   rintro e w2 ⟨aA,d0,d1,d2,d3,d4,L3,L4,rfl,ht,-⟩
   obtain⟨x0,x1,x2,xa,xl,xc,ya,yl,yc,rfl,rfl,rfl,rfl,rfl⟩:=ht.shape
   have aE:x0=Nd.sort t:=(Value.int.inj ht.1).2
   subst aE
   have aB:=hidF (aA.alloc aA.size (.cells #[.int .i64 (Nd.sort t),.int .i64 x1,.string x2,.slice xa xl xc,.slice ya yl yc] 67))
   clear aA ht HT HO HV
   go_wp2_with fail
   go_ret
   exact⟨qaN aI.out.symm,aB.out⟩
  ·rw[aC]at HA
   clear aC
   cases hf:freeB s with
   | true=>
    rw[hf]at HA HV
    clear hf
    go_enter Tryz.func65,Tryz.ntmps65
    go_wp2_with fail
    refine HO.out.mono ?_
    rintro e w1 ⟨rfl,rfl⟩
    go_wp2_with fail
    refine HT.out.mono ?_
    rintro e w2 ⟨aA,d0,d1,d2,d3,d4,L3,L4,rfl,ht,-⟩
    obtain⟨x0,x1,x2,xa,xl,xc,ya,yl,yc,rfl,rfl,rfl,rfl,rfl⟩:=ht.shape
    have aE:x0=Nd.sort t:=(Value.int.inj ht.1).2
    subst aE
    have aB:=hidF (aA.alloc aA.size (.cells #[.int .i64 (Nd.sort t),.int .i64 x1,.string x2,.slice xa xl xc,.slice ya yl yc] 67))
    have aD:=Lib.hid (HV.out _ aB.out)
    clear aA ht HT HO HV
    go_wp2_with fail
    refine aD.out.mono ?_
    rintro e w3 ⟨rfl,rfl⟩
    go_wp2_with fail
    go_ret
    exact⟨qaN (by rw[HA.out];rfl),aB.out⟩
   | false=>
    rw[hf]at HA HV
    clear hf
    go_enter Tryz.func65,Tryz.ntmps65
    go_wp2_with fail
    refine HO.out.mono ?_
    rintro e w1 ⟨rfl,rfl⟩
    go_wp2_with fail
    refine HT.out.mono ?_
    rintro e w2 ⟨aA,d0,d1,d2,d3,d4,L3,L4,rfl,ht,-⟩
    obtain⟨x0,x1,x2,xa,xl,xc,ya,yl,yc,rfl,rfl,rfl,rfl,rfl⟩:=ht.shape
    have aE:x0=Nd.sort t:=(Value.int.inj ht.1).2
    subst aE
    have aB:=hidF (aA.alloc aA.size (.cells #[.int .i64 (Nd.sort t),.int .i64 x1,.string x2,.slice xa xl xc,.slice ya yl yc] 67))
    have aD:=Lib.hid (HV.out _ aB.out)
    clear aA ht HT HO HV
    go_wp2_with fail
    refine aD.out.mono ?_
    rintro e w3 ⟨rfl,rfl⟩
    go_wp2_with fail
    go_ret
    exact⟨qaN (by rw[HA.out];rfl),aB.out⟩
 ·rw[aF]at HT
  rw[aC]at HA
  clear aF hr aC
  generalize ansU M s=t at *
  cases hf:freeB s with
  | true=>
   rw[hf]at HA HV
   clear hf
   go_enter Tryz.func65,Tryz.ntmps65
   go_wp2_with fail
   refine HO.out.mono ?_
   rintro e w1 ⟨rfl,rfl⟩
   go_wp2_with fail
   refine HT.out.mono ?_
   rintro e w2 ⟨aA,d0,d1,d2,d3,d4,L3,L4,rfl,ht,-⟩
   obtain⟨x0,x1,x2,xa,xl,xc,ya,yl,yc,rfl,rfl,rfl,rfl,rfl⟩:=ht.shape
   have aB:=hidF (aA.alloc aA.size (.cells #[.int .i64 x0,.int .i64 x1,.string x2,.slice xa xl xc,.slice ya yl yc] 67))
   have aD:=Lib.hid (HV.out _ aB.out)
   clear aA ht HT HO HV
   go_wp2_with fail
   refine aD.out.mono ?_
   rintro e w3 ⟨rfl,rfl⟩
   go_wp2_with fail
   go_ret
   exact⟨qaN (by rw[HA.out];rfl),aB.out⟩
  | false=>
   rw[hf]at HA HV
   clear hf
   go_enter Tryz.func65,Tryz.ntmps65
   go_wp2_with fail
   refine HO.out.mono ?_
   rintro e w1 ⟨rfl,rfl⟩
   go_wp2_with fail
   refine HT.out.mono ?_
   rintro e w2 ⟨aA,d0,d1,d2,d3,d4,L3,L4,rfl,ht,-⟩
   obtain⟨x0,x1,x2,xa,xl,xc,ya,yl,yc,rfl,rfl,rfl,rfl,rfl⟩:=ht.shape
   have aB:=hidF (aA.alloc aA.size (.cells #[.int .i64 x0,.int .i64 x1,.string x2,.slice xa xl xc,.slice ya yl yc] 67))
   have aD:=Lib.hid (HV.out _ aB.out)
   clear aA ht HT HO HV
   go_wp2_with fail
   refine aD.out.mono ?_
   rintro e w3 ⟨rfl,rfl⟩
   go_wp2_with fail
   go_ret
   exact⟨qaN (by rw[HA.out];rfl),aB.out⟩
end Go.Proofs.YtelogmjfekhmpaaGreatDoor
