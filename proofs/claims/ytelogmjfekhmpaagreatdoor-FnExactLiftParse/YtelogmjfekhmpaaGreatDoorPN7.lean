import Derived.Test.YtelogmjfekhmpaaGreatDoorPN6
namespace Go.Proofs.YtelogmjfekhmpaaGreatDoor
set_option maxRecDepth 100000
set_option maxHeartbeats 16000000
open Go.RowKit
theorem xhP (s:ByteArray):okR (s.size+7) s=kindB s:=rfl
theorem qzS {S:Nat->Prop} {w:World} {n:Nat} {k:K n} {c0 c1 c2:Value} (h:KindIn S w n k c0 c1 c2):∃ (s:Int) (a:Option Addr) (l c:Nat) (a':Option Addr) (l' c':Nat),c0=.int .i64 s/\c1=.slice a l c/\c2=.slice a' l' c':=h.shape
theorem xeV (M:Nat) {B R X Y bk m:Nat} {it:Obj} {wv:Value} {ws:List ByteArray} {w0 w:World} {n:Nd (T m)} {a c:Nat} {na:Option Addr} {nc:Nat} {ka:Option Addr} {kc:Nat} (rk:Bool->Nat->Nat->Rd3 (T m)) (d:Int) (h:PSt B R X Y it bk m wv ws w0 w n a c na nc ka kc) :
  Calls Tryz.prog 69 #[.pointer (some ⟨R,0,none⟩),.pointer (some ⟨X,0,none⟩),.int .i32 75,.int .i64 d] w (qaY B R X Y it bk m wv ws w0 (stepR M rk ws 75 n a c)):=by
 have HS:Hid (stepR M rk ws 75 n a c=match ws[a]? with|none=>.error (2,a)|some s=>if kindB s=true then .ok (⟨n.sort,n.num,s,n.names,n.kids⟩,a+1,c) else .error (2,a)):=by
  show _=_
  unfold stepR
  rw[if_neg (by decide),if_neg (by decide)]
  cases ws[a]? with
  | none=>rfl
  | some s=>
   dsimp only
   rw[if_neg (by decide),if_neg (by decide),if_pos rfl]
 have aK:=h.many.lt
 have aL:=h.rx
 have aM:=h.rdr.lt
 by_cases ha:a<ws.length
 case neg=>
  have HW:=Lib.hid (qjG h.rdr ha)
  have HP:Hid (∀ k,qaY B R X Y it bk m wv ws w0 (stepR M rk ws 75 n a c) (.panicked (qbV 2 a)) (w.drewN k)):=fun k=>.inr ⟨2,a,by rw[HS.out,List.getElem?_eq_none (by omega)],rfl,h.many.near.trans (qaK (Near.refl R w) k)⟩
  clear h HS ha
  go_enter Tryz.func69,Tryz.ntmps69
  go_wp2_with fail
  refine HW.out.mono ?_
  rintro e w1 ⟨rfl,k,rfl⟩
  exact⟨rfl,HP.out k⟩
 obtain⟨s,aD⟩:∃ s,ws[a]=s:=⟨_,rfl⟩
 have aN:s.size<=3000:=by rw[<- aD];exact h.rdr.short _ (List.getElem_mem ha)
 have aA:Hid (stepR M rk ws 75 n a c=if kindB s=true then .ok (⟨n.sort,n.num,s,n.names,n.kids⟩,a+1,c) else .error (2,a)):=by
  show _=_
  rw[HS.out,List.getElem?_eq_getElem ha,aD]
 have HW:Hid (Calls Tryz.prog 66 #[.pointer (some ⟨R,0,none⟩)] w fun e w'=>e=.returned (.string s)/\∃ n,w'=w.drewN n):=by
  have:=qgF h.rdr ha
  rw[aD]at this
  exact this
 have aC:Hid (∀ j,Calls Tryz.prog 88 #[.string s] (w.drewN j) fun e w'=>PSt B R X Y it bk m wv ws w0 w' n a c na nc ka kc/\∃ y a1 l1 k1 a2 l2 k2,e=.returned (.tuple #[.agg #[.int .i64 y,.slice a1 l1 k1,.slice a2 l2 k2],.bool (kindB s)])):=fun j=>by
  have h1:=h.on (qaK (Near.refl R w) j) (h.rdr.drewN j) (Nat.le_refl _)
  have hk:=qqB s (s.size+7) (by omega) (by omega) (w.drewN j)
  rw[xhP]at hk
  refine hk.mono ?_
  rintro e w' ⟨hb,c0,c1,c2,L3,L4,rfl,aI,-⟩
  obtain⟨y,a1,l1,k1,a2,l2,k2,rfl,rfl,rfl⟩:=qzS aI
  exact⟨h1.on (Near.of_below hb) (h1.rdr.same hb) (Nat.le_refl _),y,a1,l1,k1,a2,l2,k2,rfl⟩
 have aG:Hid (∃ h:a<ws.length,ws[a]=s):=⟨ha,aD⟩
 clear h HS ha aD
 cases hv:kindB s with
 | false=>
  rw[hv]at aA aC
  clear hv
  go_enter Tryz.func69,Tryz.ntmps69
  go_wp2_with fail
  refine HW.out.mono ?_
  rintro e w1 ⟨rfl,j,rfl⟩
  go_wp2_with fail
  refine (aC.out j).mono ?_
  rintro e V ⟨hV,y,a1,l1,k1,a2,l2,k2,rfl⟩
  have aB:=(Below.refl V.heap.size V).alloc (Nat.le_refl _) (.cells #[.int .i64 y,.slice a1 l1 k1,.slice a2 l2 k2] 55)
  have HD:=Lib.hid (qcG (hV.rdr.same aB) 2)
  have HP:Hid (qaY B R X Y it bk m wv ws w0 (stepR M rk ws 75 n a c) (.panicked (qbV 2 a)) (V.alloc (.cells #[.int .i64 y,.slice a1 l1 k1,.slice a2 l2 k2] 55))):=.inr ⟨2,a,aA.out,rfl,hV.many.near.trans (Near.of_below aB)⟩
  clear hV aC HW aA aB
  go_wp2_with fail
  refine HD.out.mono ?_
  rintro e w3 ⟨rfl,rfl⟩
  exact⟨rfl,HP.out⟩
 | true=>
  rw[hv]at aA aC
  rw[if_pos rfl]at aA
  clear hv
  go_enter Tryz.func69,Tryz.ntmps69
  go_wp2_with fail
  refine HW.out.mono ?_
  rintro e w1 ⟨rfl,j,rfl⟩
  go_wp2_with fail
  refine (aC.out j).mono ?_
  rintro e V ⟨hV,y,a1,l1,k1,a2,l2,k2,rfl⟩
  have aB:=(Below.refl V.heap.size V).alloc (Nat.le_refl _) (.cells #[.int .i64 y,.slice a1 l1 k1,.slice a2 l2 k2] 55)
  have aE:=hV.on (Near.of_below aB) (hV.rdr.same aB) (Nat.le_refl _)
  have aH:Hid (Calls Tryz.prog 68 #[.pointer (some ⟨R,0,none⟩)] (V.alloc (.cells #[.int .i64 y,.slice a1 l1 k1,.slice a2 l2 k2] 55)) fun e w'=>e=.returned (.string s)/\(∃ q,w'.cell? ⟨X,2,none⟩=some q)/\w'.frozen? ⟨X,2,none⟩=false/\qaY B R X Y it bk m wv ws w0 (stepR M rk ws 75 n a c) (.returned (.tuple #[])) (w'.setCell ⟨X,2,none⟩ (.string s))):=by
   obtain⟨hq,aJ⟩:=aG.out
   have hp:=qfL aE.rdr hq
   rw[aJ]at hp
   refine hp.mono ?_
   rintro e w' ⟨rfl,hn,hr⟩
   have aF:=aE.on hn hr (by omega)
   exact⟨rfl,⟨_,(qaC aF.many.box).1.2.2.1⟩,(qaC aF.many.box).2 2,.inl ⟨_,_,_,_,_,_,_,aA.out,rfl,aF.setText s⟩⟩
  clear hV aC HW aA aB aE aG
  go_wp2_with fail
  refine (qbM _ _ _).mono ?_
  rintro e w3 ⟨rfl,rfl⟩
  go_wp2_with fail
  refine aH.out.mono ?_
  rintro e w4 ⟨rfl,⟨q,x2⟩,xf,hF⟩
  have HF:=Lib.hid hF
  clear hF aH
  go_wp2_with fail
  exact bodyPost_end (results_none rfl _ _ _) rfl HF.out
theorem PSt.leaf {B R X Y bk m:Nat} {it:Obj} {wv:Value} {ws:List ByteArray} {w0 w:World} {n:Nd (T m)} {a c:Nat} {na:Option Addr} {nc:Nat} {ka:Option Addr} {kc:Nat} (h:PSt B R X Y it bk m wv ws w0 w n a c na nc ka kc) (v:Int) (x:ByteArray) :
  PSt B R X Y it bk m wv ws w0 ((w.setCell ⟨X,1,none⟩ (.int .i64 v)).setCell ⟨X,2,none⟩ (.string x)) ⟨n.sort,v,x,n.names,n.kids⟩ a c na nc ka kc /\
  PSt B R X Y it bk m wv ws w0 ((w.setCell ⟨X,2,none⟩ (.string x)).setCell ⟨X,1,none⟩ (.int .i64 v)) ⟨n.sort,v,x,n.names,n.kids⟩ a c na nc ka kc:=
 ⟨(h.setNum v).setText x,(h.setText x).setNum v⟩
theorem xeW (M:Nat) (hM:3000<=M) {B R X Y bk m:Nat} {it:Obj} {wv:Value} {ws:List ByteArray} {w0 w:World} {n:Nd (T m)} {a c:Nat} {na:Option Addr} {nc:Nat} {ka:Option Addr} {kc:Nat} (rk:Bool->Nat->Nat->Rd3 (T m)) (d:Int) (h:PSt B R X Y it bk m wv ws w0 w n a c na nc ka kc) (ha:a<ws.length) (l:Int × Int × ByteArray) (hl:leafW M ws[a]=some l) :
  Calls Tryz.prog 69 #[.pointer (some ⟨R,0,none⟩),.pointer (some ⟨X,0,none⟩),.int .i32 84,.int .i64 d] w (qaY B R X Y it bk m wv ws w0 (stepR M rk ws 84 n a c)):=by
 have aB:Hid (stepR M rk ws 84 n a c=.ok (⟨n.sort,l.2.1,l.2.2,n.names,n.kids⟩,a+1,c)):=by
  show _=_
  unfold stepR
  rw[if_neg (by decide),if_neg (by decide),List.getElem?_eq_getElem ha]
  dsimp only
  rw[if_pos rfl,hl]
 have aO:=h.rdr.short _ (List.getElem_mem ha)
 have aP:=h.many.lt
 have aQ:=h.rx
 have aR:=h.rdr.lt
 have aH:Hid (Calls Tryz.prog 68 #[.pointer (some ⟨R,0,none⟩)] w fun e w'=>e=.returned (.string ws[a])/\PSt B R X Y it bk m wv ws w0 w' n (a+1) c na nc ka kc):=by
  refine (qfL h.rdr ha).mono ?_
  rintro e w' ⟨rfl,hn,hr⟩
  exact⟨rfl,h.on hn hr (by omega)⟩
 obtain⟨t,hr,aJ,aK,aL⟩:∃ t:T (M+1),readT (M+1) ws[a]=some t/\okU M ws[a]=true/\ansU M ws[a]=t/\l=(Nd.sort t,Nd.num t,Nd.text t):=by
  rcases qjM M ws[a] with ⟨t,h1,h2,h3,⟨-,h4⟩|⟨-,h4⟩⟩|⟨-,-,h4⟩
  ·rw[hl]at h4;exact⟨t,h1,h2,h3,Option.some.inj h4⟩
  ·rw[hl]at h4;cases h4
  ·rw[hl]at h4;cases h4
 have aD:Hid (∀ V,PSt B R X Y it bk m wv ws w0 V n (a+1) c na nc ka kc->Calls Tryz.prog 83 #[.string ws[a]] V fun e w'=>PSt B R X Y it bk m wv ws w0 w' n (a+1) c na nc ka kc/\∃ y a1 l1 k1 a2 l2 k2,e=.returned (.tuple #[.agg #[.int .i64 y,.int .i64 l.2.1,.string l.2.2,.slice a1 l1 k1,.slice a2 l2 k2],.bool true])):=fun V hV=>by
  have ht:=qjL ws[a] M B (by omega) (by omega) V hV.laidW (by have:=hV.br;have:=hV.rdr.lt;omega)
  rw[aJ,aK]at ht
  refine ht.mono ?_
  rintro e w' ⟨hb,d0,d1,d2,d3,d4,L3,L4,rfl,aG,-⟩
  obtain⟨x0,x1,x2,xa,xl,xc,ya,yl,yc,rfl,rfl,rfl,rfl,rfl⟩:=aG.shape
  have e1:x1=Nd.num t:=(Value.int.inj aG.2.1).2
  have e2:x2=Nd.text t:=Value.string.inj aG.2.2.1
  rw[aL]
  exact⟨hV.on (Near.of_below hb) (hV.rdr.same hb) (Nat.le_refl _),x0,xa,xl,xc,ya,yl,yc,by rw[e1,e2]⟩
 generalize ws[a]=s at *
 obtain⟨l0,l1,l2⟩:=l
 dsimp only at aB aD
 clear h ha hl hr aJ aK aL t
 go_enter Tryz.func69,Tryz.ntmps69
 go_wp2_with fail
 refine aH.out.mono ?_
 rintro e V1 ⟨rfl,aM⟩
 have aI:=Lib.hid (aD.out V1 aM)
 clear aM aD aH
 go_wp2_with fail
 refine aI.out.mono ?_
 rintro e V2 ⟨aC,y,a1,l1',k1,a2,l2',k2,rfl⟩
 have aE:=(Below.refl V2.heap.size V2).alloc (Nat.le_refl _) (.cells #[.int .i64 y,.int .i64 l1,.string l2,.slice a1 l1' k1,.slice a2 l2' k2] 67)
 have aA:=aC.on (Near.of_below aE) (aC.rdr.same aE) (Nat.le_refl _)
 obtain⟨W,hW⟩:∃ W,W=V2.alloc (.cells #[.int .i64 y,.int .i64 l1,.string l2,.slice a1 l1' k1,.slice a2 l2' k2] 67):=⟨_,rfl⟩
 obtain⟨t0,t1,t2,t3,t4⟩:=qcF (heap_alloc_last V2 (.cells #[.int .i64 y,.int .i64 l1,.string l2,.slice a1 l1' k1,.slice a2 l2' k2] 67))
 have aS:=aC.many.lt
 have aT:¬ X=V2.heap.size:=by omega
 have aN:¬ V2.heap.size=X:=by omega
 rw[<- hW]at aA t1 t2
 have aF:=aA.on (qaK (Near.refl R W) 1) (aA.rdr.drewN 1) (Nat.le_refl _)
 obtain⟨⟨x0,x1,x2,x3,x4⟩,xf⟩:=qaC aA.many.box
 have xf1:=xf 1
 have xf2:=xf 2
 have HF:Hid ((qaY B R X Y it bk m wv ws w0 (stepR M rk ws 84 n a c) (.returned (.tuple #[])) ((W.drew.setCell ⟨X,1,none⟩ (.int .i64 l1)).setCell ⟨X,2,none⟩ (.string l2))/\qaY B R X Y it bk m wv ws w0 (stepR M rk ws 84 n a c) (.returned (.tuple #[])) ((W.drew.setCell ⟨X,2,none⟩ (.string l2)).setCell ⟨X,1,none⟩ (.int .i64 l1))) /\
   qaY B R X Y it bk m wv ws w0 (stepR M rk ws 84 n a c) (.returned (.tuple #[])) ((W.setCell ⟨X,1,none⟩ (.int .i64 l1)).setCell ⟨X,2,none⟩ (.string l2)).drew/\qaY B R X Y it bk m wv ws w0 (stepR M rk ws 84 n a c) (.returned (.tuple #[])) ((W.setCell ⟨X,2,none⟩ (.string l2)).setCell ⟨X,1,none⟩ (.int .i64 l1)).drew):=
  ⟨⟨.inl ⟨_,_,_,_,_,_,_,aB.out,rfl,(aF.leaf l1 l2).1⟩,.inl ⟨_,_,_,_,_,_,_,aB.out,rfl,(aF.leaf l1 l2).2⟩⟩,
   .inl ⟨_,_,_,_,_,_,_,aB.out,rfl,(aA.leaf l1 l2).1.on (qaK (Near.refl R _) 1) ((aA.leaf l1 l2).1.rdr.drewN 1) (Nat.le_refl _)⟩,.inl ⟨_,_,_,_,_,_,_,aB.out,rfl,(aA.leaf l1 l2).2.on (qaK (Near.refl R _) 1) ((aA.leaf l1 l2).2.rdr.drewN 1) (Nat.le_refl _)⟩⟩
 clear aC aI aE aA aF aB t0 t3 t4 xf
 go_wp2_with fail
 rw[<- hW]
 clear hW
 go_region
 all_goals
  have HG:=HF
  clear t1 t2 x0 x1 x2 x3 x4 xf1 xf2
  go_wp2_with fail
  refine bodyPost_end (results_none rfl _ _ _) rfl ?_
  first
   | with_reducible exact HG.out.1.1
   | with_reducible exact HG.out.1.2
   | with_reducible exact HG.out.2.1
   | with_reducible exact HG.out.2.2
end Go.Proofs.YtelogmjfekhmpaaGreatDoor
