import Derived.Test.YtelogmjfekhmpaaGreatDoorTI2
import Derived.Test.YtelogmjfekhmpaaGreatDoorTI3
import Derived.Defers
import Derived.Recover
import Derived.RegionDies
namespace Go.Proofs.YtelogmjfekhmpaaGreatDoor
set_option maxRecDepth 100000
set_option maxHeartbeats 16000000
open Go.RowKit
theorem TRPost.drew {R i m q:Nat} {s:ByteArray} {w w':World} {e:Ending} (h:Sc w R s i) (hp:TRPost R s i m (w.drewN q) e w'):TRPost R s i m w e w':=by
 rcases hp with ⟨t,p,v,y1,y2,y3,y4,y5,y6⟩|⟨y1,y2,y3⟩
 ·exact .inl ⟨t,p,v,y1,y2,y3,y4,y5,((Scan.refl h).drewN q).trans y6⟩
 ·exact .inr ⟨y1,y2,((Scan.refl h).drewN q).near.trans y3⟩
theorem qyO {P:Program} {t:TypeId} {ps rs:Array TypeId} {b:Bool} (d:Nat) (fn:Fn) (first cap:Array Value) (w:World) (h:P.underlying t=some (.func ps rs b)):(Op.equalIn (d+1) t (.func fn first cap) .nilFunc).run P w=.ok false w:=by
 simp[Op.equalIn,run_underlying h]
theorem xdN {P:Program} {t:TypeId} {ps rs:Array TypeId} {b:Bool} (d:Nat) (w:World) (h:P.underlying t=some (.func ps rs b)):(Op.equalIn (d+1) t .nilFunc .nilFunc).run P w=.ok true w:=by
 simp[Op.equalIn,run_underlying h]
theorem Tryz.func_ne (fn:Fn) (first cap:Array Value) (w:World):(binOp .neq 136 (.func fn first cap) .nilFunc).run Tryz.prog w=.ok (.bool true) w:=by
 have:(Op.equal 136 (.func fn first cap) .nilFunc).run Tryz.prog w=.ok false w:=qyO 9999 fn first cap w Tryz.underlying136
 simp only[binOp]
 simp[this]
theorem Tryz.func_nil (w:World):(binOp .neq 136 .nilFunc .nilFunc).run Tryz.prog w=.ok (.bool false) w:=by
 have:(Op.equal 136 .nilFunc .nilFunc).run Tryz.prog w=.ok true w:=xdN 9999 w Tryz.underlying136
 simp only[binOp]
 simp[this]
theorem qyP (m:Nat) (hm:qgY m):qgY (m+1):=by
 intro B R s i w hL aG h hM hi hs aP
 have hR:=h.lt
 have c0:=h.c0
 have c1:=h.c1
 have aK:=Tryz.func_ne
 have aL:=Tryz.func_nil
 by_cases hin:i<s.size
 case neg=>
  have aH:Hid (∀ W,Calls Tryz.prog 156 #[.bool (decide (i<s.size))] W fun e w'=>e=.panicked refusal/\w'=W):=fun W=>by
   rw[decide_eq_false hin];exact qfJ W
  have HN:Hid (qaH (m+1) (s.data.toList.drop i)=none):=by
   have:s.data.toList.drop i=[]:=List.drop_of_length_le (by simp;omega)
   rw[this]
   exact xdF (by decide) (by decide) (by decide) (by decide) (by decide) (by decide)
  have HP:Hid (TRPost R s i (m+1) w (.panicked refusal) w.drew):=.inr ⟨HN.out,rfl,((Scan.refl h).drewN 1).near⟩
  clear h hL hM hm hin
  go_enter Tryz.func133,Tryz.ntmps133
  go_wp2_with fail
  go_region_dies
  all_goals (go_at_call 156;refine (aH.out _).mono ?_;rintro e w' ⟨rfl,rfl⟩;exact⟨rfl,HP.out⟩)
 have hd:decide ((i:Int)<(s.size:Int))=true:=by simp;omega
 have aM:(i:Int)<(s.size:Int):=by omega
 have aI:((i:Int)).toNat=i:=by omega
 have aN:(s[i].toNat:Int)<256:=by have:=s[i].toNat_lt;omega
 have aO:s[i].toNat<256:=s[i].toNat_lt
 have aA:(s.data.toList.drop i).headD 0=s[i]:=by rw[qjX s i hin];rfl
 have aE:=hM s[i]
 have aF:Hid (Sc w R s i):=h
 have HL:Hid (∀ q,LaidU B (w.drewN q)):=fun q=>hL.near ((Scan.refl h).drewN q).near aG hR
 have aB:Hid (∀ q,Sc (w.drewN q) R s i):=fun q=>((Scan.refl h).drewN q).sc h
 have aC:Hid (∀ q,Meth (w.drewN q) R):=fun q=>hM.scan ((Scan.refl h).drewN q)
 have aD:Hid (qgY m):=hm
 have aJ:Hid (∀ q,Near R w (w.drewN q)):=fun q=>((Scan.refl h).drewN q).near
 clear h hL hM hm
 by_cases k1:digC s[i]=true∨s[i]=45
 ·have hv:methV R s[i]=.func (.func 127) #[.pointer (some ⟨R,0,none⟩)] #[]:=by unfold methV;rw[if_pos k1]
  have HK:Hid (∀ q,Calls Tryz.prog 127 #[.pointer (some ⟨R,0,none⟩)] (w.drewN q) (TRPost R s i (m+1) w)):=fun q=>(xgT m B R s i _ (HL.out q) aG (aB.out q) hin hs (by rw[aA];exact k1)).mono fun e w' hp=>hp.drew aF.out
  rw[hv]at aE
  clear hv k1 aA HL aB aC aD
  go_enter Tryz.func133,Tryz.ntmps133
  go_wp2_with fail
  go_quiet (first|(go_at_call 156;refine Calls.quiet_of_same (qbC _)))
  go_wp2_with fail
  go_quiet (fail)
  go_wp2_with (go_at_call 156;refine (qbC _).mono ?_;rintro e w' ⟨rfl,rfl⟩)
  refine (HK.out _).mono ?_
  rintro e w' hp
  have HP:Hid (TRPost R s i (m+1) w e w'):=hp
  clear hp HK
  rcases HP.out with ⟨t,p,v,y1,y2,y3,rfl,y5,y6⟩|⟨y1,rfl,y3⟩
  ·clear y1 y2 y3 y5 y6
   go_wp2_with fail
   go_ret
   exact HP.out
  ·exact⟨rfl,HP.out⟩
 by_cases k2:s[i]=34
 ·have hv:methV R s[i]=.func (.func 130) #[.pointer (some ⟨R,0,none⟩)] #[]:=by unfold methV;rw[if_neg k1,if_pos k2]
  have HK:Hid (∀ q,Calls Tryz.prog 130 #[.pointer (some ⟨R,0,none⟩)] (w.drewN q) (TRPost R s i (m+1) w)):=fun q=>(quT m R s i _ (aB.out q) hi hs (by rw[aA];exact k2)).mono fun e w' hp=>hp.drew aF.out
  rw[hv]at aE
  clear hv k2 k1 aA HL aB aC aD
  go_enter Tryz.func133,Tryz.ntmps133
  go_wp2_with fail
  go_quiet (first|(go_at_call 156;refine Calls.quiet_of_same (qbC _)))
  go_wp2_with fail
  go_quiet (fail)
  go_wp2_with (go_at_call 156;refine (qbC _).mono ?_;rintro e w' ⟨rfl,rfl⟩)
  refine (HK.out _).mono ?_
  rintro e w' hp
  have HP:Hid (TRPost R s i (m+1) w e w'):=hp
  clear hp HK
  rcases HP.out with ⟨t,p,v,y1,y2,y3,rfl,y5,y6⟩|⟨y1,rfl,y3⟩
  ·clear y1 y2 y3 y5 y6
   go_wp2_with fail
   go_ret
   exact HP.out
  ·exact⟨rfl,HP.out⟩
 by_cases k3:s[i]=121∨s[i]=110
 ·have hv:methV R s[i]=.func (.func 128) #[.pointer (some ⟨R,0,none⟩)] #[]:=by unfold methV;rw[if_neg k1,if_neg k2,if_pos k3]
  have HK:Hid (∀ q,Calls Tryz.prog 128 #[.pointer (some ⟨R,0,none⟩)] (w.drewN q) (TRPost R s i (m+1) w)):=fun q=>(xdG m R s i _ (aB.out q) hi hs (by rw[aA];exact k3)).mono fun e w' hp=>hp.drew aF.out
  rw[hv]at aE
  clear hv k3 k1 k2 aA HL aB aC aD
  go_enter Tryz.func133,Tryz.ntmps133
  go_wp2_with fail
  go_quiet (first|(go_at_call 156;refine Calls.quiet_of_same (qbC _)))
  go_wp2_with fail
  go_quiet (fail)
  go_wp2_with (go_at_call 156;refine (qbC _).mono ?_;rintro e w' ⟨rfl,rfl⟩)
  refine (HK.out _).mono ?_
  rintro e w' hp
  have HP:Hid (TRPost R s i (m+1) w e w'):=hp
  clear hp HK
  rcases HP.out with ⟨t,p,v,y1,y2,y3,rfl,y5,y6⟩|⟨y1,rfl,y3⟩
  ·clear y1 y2 y3 y5 y6
   go_wp2_with fail
   go_ret
   exact HP.out
  ·exact⟨rfl,HP.out⟩
 by_cases k4:s[i]=91
 ·have hv:methV R s[i]=.func (.func 131) #[.pointer (some ⟨R,0,none⟩)] #[]:=by unfold methV;rw[if_neg k1,if_neg k2,if_neg k3,if_pos k4]
  have HK:Hid (∀ q,Calls Tryz.prog 131 #[.pointer (some ⟨R,0,none⟩)] (w.drewN q) (TRPost R s i (m+1) w)):=fun q=>(xdK m aD.out B R s i _ (HL.out q) aG (aB.out q) (aC.out q) hi hs (by omega) (by rw[aA];exact k4)).mono fun e w' hp=>hp.drew aF.out
  rw[hv]at aE
  clear hv k4 k1 k2 k3 aA HL aB aC aD
  go_enter Tryz.func133,Tryz.ntmps133
  go_wp2_with fail
  go_quiet (first|(go_at_call 156;refine Calls.quiet_of_same (qbC _)))
  go_wp2_with fail
  go_quiet (fail)
  go_wp2_with (go_at_call 156;refine (qbC _).mono ?_;rintro e w' ⟨rfl,rfl⟩)
  refine (HK.out _).mono ?_
  rintro e w' hp
  have HP:Hid (TRPost R s i (m+1) w e w'):=hp
  clear hp HK
  rcases HP.out with ⟨t,p,v,y1,y2,y3,rfl,y5,y6⟩|⟨y1,rfl,y3⟩
  ·clear y1 y2 y3 y5 y6
   go_wp2_with fail
   go_ret
   exact HP.out
  ·exact⟨rfl,HP.out⟩
 by_cases k5:s[i]=123
 ·have hv:methV R s[i]=.func (.func 132) #[.pointer (some ⟨R,0,none⟩)] #[]:=by unfold methV;rw[if_neg k1,if_neg k2,if_neg k3,if_neg k4,if_pos k5]
  have HK:Hid (∀ q,Calls Tryz.prog 132 #[.pointer (some ⟨R,0,none⟩)] (w.drewN q) (TRPost R s i (m+1) w)):=fun q=>(xdM m aD.out B R s i _ (HL.out q) aG (aB.out q) (aC.out q) hi hs (by omega) (by rw[aA];exact k5)).mono fun e w' hp=>hp.drew aF.out
  rw[hv]at aE
  clear hv k5 k1 k2 k3 k4 aA HL aB aC aD
  go_enter Tryz.func133,Tryz.ntmps133
  go_wp2_with fail
  go_quiet (first|(go_at_call 156;refine Calls.quiet_of_same (qbC _)))
  go_wp2_with fail
  go_quiet (fail)
  go_wp2_with (go_at_call 156;refine (qbC _).mono ?_;rintro e w' ⟨rfl,rfl⟩)
  refine (HK.out _).mono ?_
  rintro e w' hp
  have HP:Hid (TRPost R s i (m+1) w e w'):=hp
  clear hp HK
  rcases HP.out with ⟨t,p,v,y1,y2,y3,rfl,y5,y6⟩|⟨y1,rfl,y3⟩
  ·clear y1 y2 y3 y5 y6
   go_wp2_with fail
   go_ret
   exact HP.out
  ·exact⟨rfl,HP.out⟩
 by_cases k6:s[i]=126∨s[i]=63
 ·have hv:methV R s[i]=.func (.func 129) #[.pointer (some ⟨R,0,none⟩)] #[]:=by unfold methV;rw[if_neg k1,if_neg k2,if_neg k3,if_neg k4,if_neg k5,if_pos k6]
  have HK:Hid (∀ q,Calls Tryz.prog 129 #[.pointer (some ⟨R,0,none⟩)] (w.drewN q) (TRPost R s i (m+1) w)):=fun q=>(qyL m aD.out B R s i _ (HL.out q) aG (aB.out q) (aC.out q) hi hs (by omega) (by rw[aA];exact k6)).mono fun e w' hp=>hp.drew aF.out
  rw[hv]at aE
  clear hv k6 k1 k2 k3 k4 k5 aA HL aB aC aD
  go_enter Tryz.func133,Tryz.ntmps133
  go_wp2_with fail
  go_quiet (first|(go_at_call 156;refine Calls.quiet_of_same (qbC _)))
  go_wp2_with fail
  go_quiet (fail)
  go_wp2_with (go_at_call 156;refine (qbC _).mono ?_;rintro e w' ⟨rfl,rfl⟩)
  refine (HK.out _).mono ?_
  rintro e w' hp
  have HP:Hid (TRPost R s i (m+1) w e w'):=hp
  clear hp HK
  rcases HP.out with ⟨t,p,v,y1,y2,y3,rfl,y5,y6⟩|⟨y1,rfl,y3⟩
  ·clear y1 y2 y3 y5 y6
   go_wp2_with fail
   go_ret
   exact HP.out
  ·exact⟨rfl,HP.out⟩
 have hv:methV R s[i]=.nilFunc:=by unfold methV;rw[if_neg k1,if_neg k2,if_neg k3,if_neg k4,if_neg k5,if_neg k6]
 have HP:Hid (∀ q,TRPost R s i (m+1) w (.panicked refusal) (w.drewN q)):=fun q=>.inr ⟨xdF (by rw[aA];exact k1) (by rw[aA];exact k2) (by rw[aA];exact k3) (by rw[aA];exact k4) (by rw[aA];exact k5) (by rw[aA];exact k6),rfl,aJ.out q⟩
 rw[hv]at aE
 clear hv k1 k2 k3 k4 k5 k6 aA HL aB aC aD
 go_enter Tryz.func133,Tryz.ntmps133
 go_wp2_with fail
 go_quiet (first|(go_at_call 156;refine Calls.quiet_of_same (qbC _)))
 go_wp2_with fail
 go_quiet (fail)
 go_wp2_with (go_at_call 156;refine (qfJ _).mono ?_;rintro e w' ⟨rfl,rfl⟩)
 exact⟨rfl,HP.out _⟩
theorem xdO:∀ m,qgY m:=by
 intro m
 induction m with
 | zero=>intro B R s i w _ _ _ _ _ _ aA;omega
 | succ m ih=>exact qyP m ih
def WhT (R:Nat) (s:ByteArray) (m:Nat) (w:World) (e:Ending) (w':World):Prop:=
 Near R w w' /\ ((∃ (t:T m) (v:Value),qaH m s.data.toList=some (t,[])/\e=.returned v/\InnerT (fun b=>w.heap.size<=b/\b<w'.heap.size) w' m t v) ∨
  ((∀ t,qaH m s.data.toList≠some (t,[]))/\e=.panicked refusal))
theorem qyQ (m B R:Nat) (s:ByteArray) (w:World) (hL:LaidU B w) (hBR:B<=R) (h:Sc w R s 0) (hM:Meth w R) (hs:s.size<=10000) (hm:s.size<m) :
  Calls Tryz.prog 103 #[.pointer (some ⟨R,0,none⟩)] w (WhT R s m w):=by
 have hR:=h.lt
 have aB:Hid (Sc w R s 0):=h
 have HC:Hid (Calls Tryz.prog 133 #[.pointer (some ⟨R,0,none⟩)] w (TRPost R s 0 m w)):=xdO m B R s 0 w hL hBR h hM (Nat.zero_le _) hs (by omega)
 clear h hL hM
 go_enter Tryz.func103,Tryz.ntmps103
 go_wp2_with fail
 refine HC.out.mono ?_
 rintro e w1 (⟨t,q,v,y1,y2,y3,rfl,y4,y5⟩|⟨y1,rfl,y2⟩)
 case inr=>
  rw[List.drop_zero]at y1
  exact⟨rfl,y2,.inr ⟨fun k e=>(by rw[y1]at e;cases e),rfl⟩⟩
 rw[List.drop_zero]at y1
 obtain⟨zt,zx,rfl⟩:=id y4.iface
 have aC:=y5.near.size
 have aA:Hid (Scan R w w1 q):=y5
 have HE:Hid (Calls Tryz.prog 134 #[.pointer (some ⟨R,0,none⟩)] w1 _):=qmI _ R s q (y5.sc aB.out)
 have HY:Hid (InnerT (fun b=>w.heap.size<=b/\b<w1.heap.size) w1 m t (.iface zt zx)/\qaH m s.data.toList=some (t,s.data.toList.drop q)):=⟨y4,y1⟩
 clear HC y1 y4 y5
 go_wp2_with fail
 refine HE.out.mono ?_
 rintro e w2 (⟨v1,rfl,v2⟩|⟨v1,rfl,v2⟩)
 case inr=>
  refine⟨rfl,aA.out.near.trans v2,.inr ⟨fun k' e=>?_,rfl⟩⟩
  rw[HY.out.2]at e
  simp only[Option.some.injEq,Prod.mk.injEq]at e
  have:=congrArg List.length e.2
  simp at this
  omega
 have HP:Hid (WhT R s m w (.returned (.iface zt zx)) w2):=by
  refine⟨aA.out.near.trans v2.near,.inl ⟨t,_,?_,rfl,HY.out.1.keep (fun b hb=>v2.near.block b hb.2 (by omega)) (fun b hb=>⟨hb.1,Nat.lt_of_lt_of_le hb.2 v2.near.size⟩)⟩⟩
  rw[HY.out.2,v1];simp
 clear HE HY aA v1 v2
 go_wp2_with fail
 go_ret
 exact HP.out
theorem Tryz.assert_yesT (w:World):(Instr.typeAssert (.iface 160 (.agg #[])) 20 160 true).run Tryz.prog w=.ok (.tuple #[.agg #[],.bool true]) w:=by kernel_rfl
theorem Tryz.assert_nilT (w:World):(Instr.typeAssert .nilIface 20 160 true).run Tryz.prog w=.ok (.tuple #[.agg #[],.bool false]) w:=by kernel_rfl
theorem qnR (w:World) :
  CallsD Tryz.prog 126 #[] (.panicking [{ v:=.iface 160 (.agg #[]),recovered:=false }]) w fun e u' w'=>
   e=.returned (.tuple #[])/\u'=.panicking [{ v:=.iface 160 (.agg #[]),recovered:=true }]/\w'=w:=by
 have aA:=Tryz.assert_yesT
 refine callsD_of_wpS Tryz.func126 rfl fun c₀ cs hu=>?_
 apply wpS_seq
 apply wpS_region
 simp[wpOpsS,go_sem,recoverD,hu,Tryz.ntmps126,Exit.thenS]
 refine wpS_of_wp ?_
 go_wp2
 exact⟨rfl,_,rfl,.tuple #[],by simp[results,Tryz.results126],rfl,rfl,rfl⟩
theorem qnS (w:World) :
  CallsD Tryz.prog 126 #[] .returning w fun e u' w'=>e=.returned (.tuple #[])/\u'=.returning/\w'=w:=by
 have aA:=Tryz.assert_nilT
 refine callsD_of_wpS Tryz.func126 rfl fun c₀ cs hu=>?_
 apply wpS_seq
 apply wpS_region
 simp[wpOpsS,go_sem,recoverD,hu,Tryz.ntmps126,Exit.thenS]
 refine wpS_of_wp ?_
 go_wp2
 exact⟨rfl,_,by rw[<- hu],.tuple #[],by simp[results,Tryz.results126],rfl,rfl,rfl⟩
def qqE (R:Nat) (s:ByteArray) (m:Nat) (w:World) (e:Ending) (w':World):Prop:=
 Near R w w' /\ ((∃ (t:T m) (v:Value),qaH m s.data.toList=some (t,[])/\e=.returned (.tuple #[v,.bool true])/\InnerT (fun b=>w.heap.size<=b/\b<w'.heap.size) w' m t v) ∨
  ((∀ t,qaH m s.data.toList≠some (t,[]))/\e=.returned (.tuple #[.nilIface,.bool false])))
theorem quV (m B R:Nat) (s:ByteArray) (w:World) (hL:LaidU B w) (hBR:B<=R) (h:Sc w R s 0) (hM:Meth w R) (hs:s.size<=10000) (hm:s.size<m) :
  Calls Tryz.prog 101 #[.func (.func 103) #[.pointer (some ⟨R,0,none⟩)] #[]] w (qqE R s m w):=by
 have HC:Hid (Calls Tryz.prog 103 #[.pointer (some ⟨R,0,none⟩)] w (WhT R s m w)):=qyQ m B R s w hL hBR h hM hs hm
 clear h hL hM
 go_enter_defers Tryz.func101,Tryz.ntmps101
 go_wp2_with fail
 refine HC.out.mono ?_
 rintro e w1 ⟨hn,⟨t,v,y1,rfl,y4⟩|⟨y1,rfl⟩⟩
 ·obtain⟨zt,zx,rfl⟩:=id y4.iface
  have HP:Hid (qqE R s m w (.returned (.tuple #[.iface zt zx,.bool true])) w1):=⟨hn,.inl ⟨t,_,y1,rfl,y4⟩⟩
  clear HC y1 y4 hn
  go_wp2_with fail
  refine leaves_cons (f:=126) (args:=#[]) (by simp) (by simp[go_sem]) ?_
  refine (qnS _).mono ?_
  rintro e u' w'' ⟨rfl,rfl,rfl⟩
  exact⟨.tuple #[.iface zt zx,.bool true],by simp[results,Tryz.results101,go_sem],HP.out⟩
 ·have HP:Hid (qqE R s m w (.returned (.tuple #[.nilIface,.bool false])) w1):=⟨hn,.inr ⟨y1,rfl⟩⟩
  clear HC y1 hn
  refine leaves_cons (f:=126) (args:=#[]) (by simp) (by simp[go_sem]) ?_
  refine (qnR _).mono ?_
  rintro e u' w'' ⟨rfl,rfl,rfl⟩
  exact⟨.tuple #[.nilIface,.bool false],by simp[results,Tryz.results101,go_sem],HP.out⟩
end Go.Proofs.YtelogmjfekhmpaaGreatDoor
