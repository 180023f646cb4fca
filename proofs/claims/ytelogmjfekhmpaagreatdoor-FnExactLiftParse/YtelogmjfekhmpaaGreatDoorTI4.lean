import Derived.Test.YtelogmjfekhmpaaGreatDoorB19
import Derived.Test.YtelogmjfekhmpaaGreatDoorB18
import Derived.Defers
import Derived.Recover
import Derived.RegionDies
namespace Go.Proofs.YtelogmjfekhmpaaGreatDoor
set_option maxRecDepth 100000
set_option maxHeartbeats 16000000
open Go.RowKit Go.Proofs.Tryz
theorem TRPost.drew{R i m q:Nat}{s:ByteArray}{w w':World}{e:Ending}(h:Sc w R s i)(hp:TRPost R s i m (w.drewN q) e w'):TRPost R s i m w e w':=by
 rcases hp with ⟨t,p,v,a,b,c,d,f,g⟩|⟨a,b,c⟩
 ·exact .inl ⟨t,p,v,a,b,c,d,f,((Scan.refl h).drewN q).trans g⟩
 ·exact .inr ⟨a,b,((Scan.refl h).drewN q).near.trans c⟩
theorem qyO{P:Program}{t:TypeId}{ps rs:Array TypeId}{b:Bool}(d:Nat)(fn:Fn)(first cap:Array Value)(w:World)(h:P.underlying t=some (.func ps rs b)):(Op.equalIn (d+1) t (.func fn first cap) .nilFunc).run P w=.ok false w:=by
 simp[Op.equalIn,run_underlying h]
theorem xdO{P:Program}{t:TypeId}{ps rs:Array TypeId}{b:Bool}(d:Nat)(w:World)(h:P.underlying t=some (.func ps rs b)):(Op.equalIn (d+1) t .nilFunc .nilFunc).run P w=.ok true w:=by
 simp[Op.equalIn,run_underlying h]
theorem Tryz.func_ne(fn:Fn)(first cap:Array Value)(w:World):(binOp .neq 136 (.func fn first cap) .nilFunc).run prog w=.ok (.bool true) w:=by
 have:(Op.equal 136 (.func fn first cap) .nilFunc).run prog w=.ok false w:=qyO 9999 fn first cap w underlying136
 simp only[binOp]
 simp[this]
theorem Tryz.func_nil(w:World):(binOp .neq 136 .nilFunc .nilFunc).run prog w=.ok (.bool false) w:=by
 have:(Op.equal 136 .nilFunc .nilFunc).run prog w=.ok true w:=xdO 9999 w underlying136
 simp only[binOp]
 simp[this]
theorem qyP(m:Nat)(hm:qgW m):qgW (m+1):=by
 intro B R s i w H x h E D C Q
 have J:=h.lt
 have c0:=h.c0
 have c1:=h.c1
 have K:=Tryz.func_ne
 have L:=Tryz.func_nil
 by_cases hin:i<s.size
 case neg=>
  have F:Hid (∀W,Calls prog 156 #[.bool (decide (i<s.size))] W fun e w'=>e=.panicked refusal/\w'=W):=fun W=>by
   rw[decide_eq_false hin];exact qfH W
  have M:Hid (qaH (m+1) (s.data.toList.drop i)=none):=by
   have:s.data.toList.drop i=[]:=List.drop_of_length_le (by simp;omega)
   rw[this]
   exact xdG (by decide) (by decide) (by decide) (by decide) (by decide) (by decide)
  have d:Hid (TRPost R s i (m+1) w (.panicked refusal) w.drew):=.inr ⟨M.out,rfl,((Scan.refl h).drewN 1).near⟩
  clear h H E hm hin
  go_enter func133,ntmps133
  go_wp2_with fail
  go_region_dies
  all_goals (go_at_call 156;refine (F.out _).mono ?_;rintro e w' ⟨rfl,rfl⟩;exact⟨rfl,d.out⟩)
 have S:decide ((i:Int)<(s.size:Int))=true:=by simp;omega
 have N:(i:Int)<(s.size:Int):=by omega
 have I:((i:Int)).toNat=i:=by omega
 have O:(s[i].toNat:Int)<256:=by have:=s[i].toNat_lt;omega
 have P:s[i].toNat<256:=s[i].toNat_lt
 have a:(s.data.toList.drop i).headD 0=s[i]:=by rw[qjS s i hin];rfl
 have o:=E s[i]
 have r:Hid (Sc w R s i):=h
 have u:Hid (∀q,LaidU B (w.drewN q)):=fun q=>H.near ((Scan.refl h).drewN q).near x J
 have b:Hid (∀q,Sc (w.drewN q) R s i):=fun q=>((Scan.refl h).drewN q).sc h
 have f:Hid (∀q,Meth (w.drewN q) R):=fun q=>E.scan ((Scan.refl h).drewN q)
 have g:Hid (qgW m):=hm
 have G:Hid (∀q,Near R w (w.drewN q)):=fun q=>((Scan.refl h).drewN q).near
 clear h H E hm
 by_cases k1:digC s[i]=true∨s[i]=45
 ·have j:methV R s[i]=.func (.func 127) #[.pointer (some ⟨R,0,none⟩)] #[]:=by unfold methV;rw[if_pos k1]
  have k:Hid (∀q,Calls prog 127 #[.pointer (some ⟨R,0,none⟩)] (w.drewN q) (TRPost R s i (m+1) w)):=fun q=>(xgU m B R s i _ (u.out q) x (b.out q) hin C (by rw[a];exact k1)).mono fun e w' c=>c.drew r.out
  rw[j]at o
  clear j k1 a u b f g
  go_enter func133,ntmps133
  go_wp2_with fail
  go_quiet (first|(go_at_call 156;refine Calls.quiet_of_same (qbA _)))
  go_wp2_with fail
  go_quiet (fail)
  go_wp2_with (go_at_call 156;refine (qbA _).mono ?_;rintro e w' ⟨rfl,rfl⟩)
  refine (k.out _).mono ?_
  rintro e w' c
  have d:Hid (TRPost R s i (m+1) w e w'):=c
  clear c k
  rcases d.out with ⟨t,p,v,l,y,n,rfl,z,A⟩|⟨l,rfl,n⟩
  ·clear l y n z A
   go_wp2_with fail
   go_ret
   exact d.out
  ·exact⟨rfl,d.out⟩
 by_cases k2:s[i]=34
 ·have j:methV R s[i]=.func (.func 130) #[.pointer (some ⟨R,0,none⟩)] #[]:=by unfold methV;rw[if_neg k1,if_pos k2]
  have k:Hid (∀q,Calls prog 130 #[.pointer (some ⟨R,0,none⟩)] (w.drewN q) (TRPost R s i (m+1) w)):=fun q=>(quS m R s i _ (b.out q) D C (by rw[a];exact k2)).mono fun e w' c=>c.drew r.out
  rw[j]at o
  clear j k2 k1 a u b f g
  go_enter func133,ntmps133
  go_wp2_with fail
  go_quiet (first|(go_at_call 156;refine Calls.quiet_of_same (qbA _)))
  go_wp2_with fail
  go_quiet (fail)
  go_wp2_with (go_at_call 156;refine (qbA _).mono ?_;rintro e w' ⟨rfl,rfl⟩)
  refine (k.out _).mono ?_
  rintro e w' c
  have d:Hid (TRPost R s i (m+1) w e w'):=c
  clear c k
  rcases d.out with ⟨t,p,v,l,y,n,rfl,z,A⟩|⟨l,rfl,n⟩
  ·clear l y n z A
   go_wp2_with fail
   go_ret
   exact d.out
  ·exact⟨rfl,d.out⟩
 by_cases k3:s[i]=121∨s[i]=110
 ·have j:methV R s[i]=.func (.func 128) #[.pointer (some ⟨R,0,none⟩)] #[]:=by unfold methV;rw[if_neg k1,if_neg k2,if_pos k3]
  have k:Hid (∀q,Calls prog 128 #[.pointer (some ⟨R,0,none⟩)] (w.drewN q) (TRPost R s i (m+1) w)):=fun q=>(xdH m R s i _ (b.out q) D C (by rw[a];exact k3)).mono fun e w' c=>c.drew r.out
  rw[j]at o
  clear j k3 k1 k2 a u b f g
  go_enter func133,ntmps133
  go_wp2_with fail
  go_quiet (first|(go_at_call 156;refine Calls.quiet_of_same (qbA _)))
  go_wp2_with fail
  go_quiet (fail)
  go_wp2_with (go_at_call 156;refine (qbA _).mono ?_;rintro e w' ⟨rfl,rfl⟩)
  refine (k.out _).mono ?_
  rintro e w' c
  have d:Hid (TRPost R s i (m+1) w e w'):=c
  clear c k
  rcases d.out with ⟨t,p,v,l,y,n,rfl,z,A⟩|⟨l,rfl,n⟩
  ·clear l y n z A
   go_wp2_with fail
   go_ret
   exact d.out
  ·exact⟨rfl,d.out⟩
 by_cases k4:s[i]=91
 ·have j:methV R s[i]=.func (.func 131) #[.pointer (some ⟨R,0,none⟩)] #[]:=by unfold methV;rw[if_neg k1,if_neg k2,if_neg k3,if_pos k4]
  have k:Hid (∀q,Calls prog 131 #[.pointer (some ⟨R,0,none⟩)] (w.drewN q) (TRPost R s i (m+1) w)):=fun q=>(xdL m g.out B R s i _ (u.out q) x (b.out q) (f.out q) D C (by omega) (by rw[a];exact k4)).mono fun e w' c=>c.drew r.out
  rw[j]at o
  clear j k4 k1 k2 k3 a u b f g
  go_enter func133,ntmps133
  go_wp2_with fail
  go_quiet (first|(go_at_call 156;refine Calls.quiet_of_same (qbA _)))
  go_wp2_with fail
  go_quiet (fail)
  go_wp2_with (go_at_call 156;refine (qbA _).mono ?_;rintro e w' ⟨rfl,rfl⟩)
  refine (k.out _).mono ?_
  rintro e w' c
  have d:Hid (TRPost R s i (m+1) w e w'):=c
  clear c k
  rcases d.out with ⟨t,p,v,l,y,n,rfl,z,A⟩|⟨l,rfl,n⟩
  ·clear l y n z A
   go_wp2_with fail
   go_ret
   exact d.out
  ·exact⟨rfl,d.out⟩
 by_cases k5:s[i]=123
 ·have j:methV R s[i]=.func (.func 132) #[.pointer (some ⟨R,0,none⟩)] #[]:=by unfold methV;rw[if_neg k1,if_neg k2,if_neg k3,if_neg k4,if_pos k5]
  have k:Hid (∀q,Calls prog 132 #[.pointer (some ⟨R,0,none⟩)] (w.drewN q) (TRPost R s i (m+1) w)):=fun q=>(xdN m g.out B R s i _ (u.out q) x (b.out q) (f.out q) D C (by omega) (by rw[a];exact k5)).mono fun e w' c=>c.drew r.out
  rw[j]at o
  clear j k5 k1 k2 k3 k4 a u b f g
  go_enter func133,ntmps133
  go_wp2_with fail
  go_quiet (first|(go_at_call 156;refine Calls.quiet_of_same (qbA _)))
  go_wp2_with fail
  go_quiet (fail)
  go_wp2_with (go_at_call 156;refine (qbA _).mono ?_;rintro e w' ⟨rfl,rfl⟩)
  refine (k.out _).mono ?_
  rintro e w' c
  have d:Hid (TRPost R s i (m+1) w e w'):=c
  clear c k
  rcases d.out with ⟨t,p,v,l,y,n,rfl,z,A⟩|⟨l,rfl,n⟩
  ·clear l y n z A
   go_wp2_with fail
   go_ret
   exact d.out
  ·exact⟨rfl,d.out⟩
 by_cases k6:s[i]=126∨s[i]=63
 ·have j:methV R s[i]=.func (.func 129) #[.pointer (some ⟨R,0,none⟩)] #[]:=by unfold methV;rw[if_neg k1,if_neg k2,if_neg k3,if_neg k4,if_neg k5,if_pos k6]
  have k:Hid (∀q,Calls prog 129 #[.pointer (some ⟨R,0,none⟩)] (w.drewN q) (TRPost R s i (m+1) w)):=fun q=>(qyL m g.out B R s i _ (u.out q) x (b.out q) (f.out q) D C (by omega) (by rw[a];exact k6)).mono fun e w' c=>c.drew r.out
  rw[j]at o
  clear j k6 k1 k2 k3 k4 k5 a u b f g
  go_enter func133,ntmps133
  go_wp2_with fail
  go_quiet (first|(go_at_call 156;refine Calls.quiet_of_same (qbA _)))
  go_wp2_with fail
  go_quiet (fail)
  go_wp2_with (go_at_call 156;refine (qbA _).mono ?_;rintro e w' ⟨rfl,rfl⟩)
  refine (k.out _).mono ?_
  rintro e w' c
  have d:Hid (TRPost R s i (m+1) w e w'):=c
  clear c k
  rcases d.out with ⟨t,p,v,l,y,n,rfl,z,A⟩|⟨l,rfl,n⟩
  ·clear l y n z A
   go_wp2_with fail
   go_ret
   exact d.out
  ·exact⟨rfl,d.out⟩
 have j:methV R s[i]=.nilFunc:=by unfold methV;rw[if_neg k1,if_neg k2,if_neg k3,if_neg k4,if_neg k5,if_neg k6]
 have d:Hid (∀q,TRPost R s i (m+1) w (.panicked refusal) (w.drewN q)):=fun q=>.inr ⟨xdG (by rw[a];exact k1) (by rw[a];exact k2) (by rw[a];exact k3) (by rw[a];exact k4) (by rw[a];exact k5) (by rw[a];exact k6),rfl,G.out q⟩
 rw[j]at o
 clear j k1 k2 k3 k4 k5 k6 a u b f g
 go_enter func133,ntmps133
 go_wp2_with fail
 go_quiet (first|(go_at_call 156;refine Calls.quiet_of_same (qbA _)))
 go_wp2_with fail
 go_quiet (fail)
 go_wp2_with (go_at_call 156;refine (qfH _).mono ?_;rintro e w' ⟨rfl,rfl⟩)
 exact⟨rfl,d.out _⟩
theorem xdP:∀m,qgW m:=by
 intro m
 induction m with
 | zero=>intro B R s i w _ _ _ _ _ _ a;omega
 | succ m ih=>exact qyP m ih
def WhT(R:Nat)(s:ByteArray)(m:Nat)(w:World)(e:Ending)(w':World):Prop:=
 Near R w w' /\ ((∃(t:T m)(v:Value),qaH m s.data.toList=some (t,[])/\e=.returned v/\InnerT (fun b=>w.heap.size<=b/\b<w'.heap.size) w' m t v) ∨
  ((∀t,qaH m s.data.toList≠some (t,[]))/\e=.panicked refusal))
theorem qyQ (m B R:Nat) (s:ByteArray) (w:World) (hL:LaidU B w) (hBR:B<=R) (h:Sc w R s 0) (hM:Meth w R) (hs:s.size<=10000) (hm:s.size<m) :
  Calls prog 103 #[.pointer (some ⟨R,0,none⟩)] w (WhT R s m w):=by
 have y:=h.lt
 have i:Hid (Sc w R s 0):=h
 have n:Hid (Calls prog 133 #[.pointer (some ⟨R,0,none⟩)] w (TRPost R s 0 m w)):=xdP m B R s 0 w hL hBR h hM (Nat.zero_le _) hs (by omega)
 clear h hL hM
 go_enter func103,ntmps103
 go_wp2_with fail
 refine n.out.mono ?_
 rintro e f (⟨t,q,v,c,p,z,rfl,j,g⟩|⟨c,rfl,p⟩)
 case inr=>
  rw[List.drop_zero]at c
  exact⟨rfl,p,.inr ⟨fun k e=>(by rw[c]at e;cases e),rfl⟩⟩
 rw[List.drop_zero]at c
 obtain⟨r,zx,rfl⟩:=id j.iface
 have u:=g.near.size
 have a:Hid (Scan R w f q):=g
 have o:Hid (Calls prog 134 #[.pointer (some ⟨R,0,none⟩)] f _):=qmG _ R s q (g.sc i.out)
 have d:Hid (InnerT (fun b=>w.heap.size<=b/\b<f.heap.size) f m t (.iface r zx)/\qaH m s.data.toList=some (t,s.data.toList.drop q)):=⟨j,c⟩
 clear n c j g
 go_wp2_with fail
 refine o.out.mono ?_
 rintro e w2 (⟨l,rfl,v2⟩|⟨l,rfl,v2⟩)
 case inr=>
  refine⟨rfl,a.out.near.trans v2,.inr ⟨fun k' e=>?_,rfl⟩⟩
  rw[d.out.2]at e
  simp only[Option.some.injEq,Prod.mk.injEq]at e
  have:=congrArg List.length e.2
  simp at this
  omega
 have x:Hid (WhT R s m w (.returned (.iface r zx)) w2):=by
  refine⟨a.out.near.trans v2.near,.inl ⟨t,_,?_,rfl,d.out.1.keep (fun b hb=>v2.near.block b hb.2 (by omega)) (fun b hb=>⟨hb.1,Nat.lt_of_lt_of_le hb.2 v2.near.size⟩)⟩⟩
  rw[d.out.2,l];simp
 clear o d a l v2
 go_wp2_with fail
 go_ret
 exact x.out
theorem Tryz.assert_yesT(w:World):(Instr.typeAssert (.iface 160 (.agg #[])) 20 160 true).run prog w=.ok (.tuple #[.agg #[],.bool true]) w:=by kernel_rfl
theorem Tryz.assert_nilT(w:World):(Instr.typeAssert .nilIface 20 160 true).run prog w=.ok (.tuple #[.agg #[],.bool false]) w:=by kernel_rfl
theorem qnQ (w:World) :
  CallsD prog 126 #[] (.panicking [{ v:=.iface 160 (.agg #[]),recovered:=false }]) w fun e u' w'=>
   e=.returned (.tuple #[])/\u'=.panicking [{ v:=.iface 160 (.agg #[]),recovered:=true }]/\w'=w:=by
 have a:=Tryz.assert_yesT
 refine callsD_of_wpS func126 rfl fun c₀ cs hu=>?_
 apply wpS_seq
 apply wpS_region
 simp[wpOpsS,go_sem,recoverD,hu,ntmps126,Exit.thenS]
 refine wpS_of_wp ?_
 go_wp2
 exact⟨rfl,_,rfl,.tuple #[],by simp[results,results126],rfl,rfl,rfl⟩
theorem qnR (w:World) :
  CallsD prog 126 #[] .returning w fun e u' w'=>e=.returned (.tuple #[])/\u'=.returning/\w'=w:=by
 have a:=Tryz.assert_nilT
 refine callsD_of_wpS func126 rfl fun c₀ cs hu=>?_
 apply wpS_seq
 apply wpS_region
 simp[wpOpsS,go_sem,recoverD,hu,ntmps126,Exit.thenS]
 refine wpS_of_wp ?_
 go_wp2
 exact⟨rfl,_,by rw[<- hu],.tuple #[],by simp[results,results126],rfl,rfl,rfl⟩
def qqE(R:Nat)(s:ByteArray)(m:Nat)(w:World)(e:Ending)(w':World):Prop:=
 Near R w w' /\ ((∃(t:T m)(v:Value),qaH m s.data.toList=some (t,[])/\e=.returned (.tuple #[v,.bool true])/\InnerT (fun b=>w.heap.size<=b/\b<w'.heap.size) w' m t v) ∨
  ((∀t,qaH m s.data.toList≠some (t,[]))/\e=.returned (.tuple #[.nilIface,.bool false])))
theorem quU (m B R:Nat) (s:ByteArray) (w:World) (hL:LaidU B w) (hBR:B<=R) (h:Sc w R s 0) (hM:Meth w R) (hs:s.size<=10000) (hm:s.size<m) :
  Calls prog 101 #[.func (.func 103) #[.pointer (some ⟨R,0,none⟩)] #[]] w (qqE R s m w):=by
 have c:Hid (Calls prog 103 #[.pointer (some ⟨R,0,none⟩)] w (WhT R s m w)):=qyQ m B R s w hL hBR h hM hs hm
 clear h hL hM
 go_enter_defers func101,ntmps101
 go_wp2_with fail
 refine c.out.mono ?_
 rintro e j ⟨b,⟨t,v,a,rfl,g⟩|⟨a,rfl⟩⟩
 ·obtain⟨k,zx,rfl⟩:=id g.iface
  have d:Hid (qqE R s m w (.returned (.tuple #[.iface k zx,.bool true])) j):=⟨b,.inl ⟨t,_,a,rfl,g⟩⟩
  clear c a g b
  go_wp2_with fail
  refine leaves_cons (f:=126) (args:=#[]) (by simp) (by simp[go_sem]) ?_
  refine (qnR _).mono ?_
  rintro e u' i ⟨rfl,rfl,rfl⟩
  exact⟨.tuple #[.iface k zx,.bool true],by simp[results,results101,go_sem],d.out⟩
 ·have d:Hid (qqE R s m w (.returned (.tuple #[.nilIface,.bool false])) j):=⟨b,.inr ⟨a,rfl⟩⟩
  clear c a b
  refine leaves_cons (f:=126) (args:=#[]) (by simp) (by simp[go_sem]) ?_
  refine (qnQ _).mono ?_
  rintro e u' i ⟨rfl,rfl,rfl⟩
  exact⟨.tuple #[.nilIface,.bool false],by simp[results,results101,go_sem],d.out⟩
end Go.Proofs.YtelogmjfekhmpaaGreatDoor
