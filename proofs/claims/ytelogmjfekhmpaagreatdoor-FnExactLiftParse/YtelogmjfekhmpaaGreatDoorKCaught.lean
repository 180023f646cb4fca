import Derived.Test.YtelogmjfekhmpaaGreatDoorKKind
import Derived.Defers
import Derived.Recover
namespace Go.Proofs.YtelogmjfekhmpaaGreatDoor
set_option maxRecDepth 100000
set_option maxHeartbeats 16000000
open Go.RowKit
def xdA (R:Nat) (s:ByteArray) (m:Nat) (w:World) (e:Ending) (w':World):Prop:=
 Near R w w' /\ ((∃ (k:K m) (c0 c1 c2:Value),qaM m s.data.toList=some (k,[])/\e=.returned (.agg #[c0,c1,c2])/\KindIn (fun b=>w.heap.size<=b/\b<w'.heap.size) w' m k c0 c1 c2) ∨
  ((∀ k,qaM m s.data.toList≠some (k,[]))/\e=.panicked refusal))
theorem xdB (m:Nat) (R:Nat) (s:ByteArray) (w:World) (h:Sc w R s 0) (hs:s.size<=10000) (hm:s.size<m) :
  Calls Tryz.prog 112 #[.pointer (some ⟨R,0,none⟩)] w (xdA R s m w):=by
 have hR:=h.lt
 obtain⟨W,hW⟩:∃ W,W=w.alloc (.cells #[.int .i64 0,.slice none 0 0,.slice none 0 0] 55):=⟨_,rfl⟩
 have aI:W.heap.size=w.heap.size+1:=by rw[hW];simp
 have aF:Below w.heap.size w W:=by rw[hW];exact (Below.refl _ _).alloc (Nat.le_refl _) _
 have HZ:Hid (W.heap[w.heap.size]?=some (.cells #[.int .i64 0,.slice none 0 0,.slice none 0 0] 55 (0,0))):=by rw[hW];exact heap_alloc_new _ _
 have aA:Hid (Scan R w W 0):=(Scan.refl h).below aF hR
 have aG:Hid (Sc w R s 0):=h
 have HC:Hid (Calls Tryz.prog 143 #[.pointer (some ⟨R,0,none⟩)] W (qgQ R s 0 m W)):=xgR m R s 0 W (aA.out.sc h) (Nat.zero_le _) hs (by omega)
 clear h
 go_enter Tryz.func112,Tryz.ntmps112
 go_wp2_with fail
 rw[<- hW]
 clear hW
 refine HC.out.mono ?_
 rintro e w1 (⟨k,q,c0,c1,c2,y1,y2,y3,rfl,y4,y5⟩|⟨y1,rfl,y2⟩)
 case inr=>
  rw[List.drop_zero]at y1
  exact⟨rfl,aA.out.near.trans y2,.inr ⟨fun k e=>(by rw[y1]at e;cases e),rfl⟩⟩
 rw[List.drop_zero]at y1
 obtain⟨z0,za,zl,zc,ua,ul,uc,rfl,rfl,rfl⟩:=y4.shape
 have aJ:=y5.near.size
 have aE:Below w1.heap.size w1 (w1.alloc (.cells #[.int .i64 z0,.slice za zl zc,.slice ua ul uc] 55)):=(Below.refl _ _).alloc (Nat.le_refl _) _
 have aB:Hid (Scan R W (w1.alloc (.cells #[.int .i64 z0,.slice za zl zc,.slice ua ul uc] 55)) q):=y5.below aE (by omega)
 have aC:=Box3.new w1 (.int .i64 z0) (.slice za zl zc) (.slice ua ul uc) 55
 have HE:Hid (Calls Tryz.prog 134 #[.pointer (some ⟨R,0,none⟩)] (w1.alloc (.cells #[.int .i64 z0,.slice za zl zc,.slice ua ul uc] 55)) _):=qmI _ R s q ((aA.out.trans aB.out).sc aG.out)
 have HY:Hid (KindIn (fun b=>W.heap.size<=b/\b<w1.heap.size) w1 m k (.int .i64 z0) (.slice za zl zc) (.slice ua ul uc)/\qaM m s.data.toList=some (k,s.data.toList.drop q)):=⟨y4,y1⟩
 clear HC y1 y4 y5
 go_wp2_with fail
 refine HE.out.mono ?_
 rintro e w2 (⟨v1,rfl,v2⟩|⟨v1,rfl,v2⟩)
 case inr=>
  refine⟨rfl,(aA.out.trans aB.out).near.trans v2,.inr ⟨fun k' e=>?_,rfl⟩⟩
  rw[HY.out.2]at e
  simp only[Option.some.injEq,Prod.mk.injEq]at e
  have:=congrArg List.length e.2
  simp at this
  omega
 have aH:=v2.near.size
 simp only[World.size_alloc]at aH
 have kk:∀ o,w2.cell? ⟨w1.heap.size,o,none⟩=(w1.alloc (.cells #[.int .i64 z0,.slice za zl zc,.slice ua ul uc] 55)).cell? ⟨w1.heap.size,o,none⟩:=fun o=>World.cell?_of_block (a:=⟨w1.heap.size,o,none⟩) (v2.near.block w1.heap.size (by simp) (by omega))
 have k0:=(kk 0).trans aC.c0
 have k1:=(kk 1).trans aC.c1
 have k2:=(kk 2).trans aC.c2
 have aD:Hid (Scan R W w2 q):=aB.out.trans v2
 have HP:Hid (xdA R s m w (.returned (.agg #[.int .i64 z0,.slice za zl zc,.slice ua ul uc])) (put3 w2 w.heap.size 0 (.int .i64 z0) (.slice za zl zc) (.slice ua ul uc))):=by
  have qq:∀ b,b≠w.heap.size->(put3 w2 w.heap.size 0 (.int .i64 z0) (.slice za zl zc) (.slice ua ul uc)).heap[b]?=w2.heap[b]?:=fun b h=>qcX h
  have hz:(put3 w2 w.heap.size 0 (.int .i64 z0) (.slice za zl zc) (.slice ua ul uc)).heap.size=w2.heap.size:=qfI
  have hn:=(aA.out.trans aD.out).near
  refine⟨⟨hn.os,hn.tape,hn.output,by rw[hz];exact hn.size,fun b hb hne=>(qq b (by omega)).trans (hn.block b hb hne)⟩,.inl ⟨k,_,_,_,?_,rfl,?_⟩⟩
  ·rw[HY.out.2,v1,List.drop_of_length_le (by simp)]
  ·refine HY.out.1.keep (fun b hb=>?_) (fun b hb=>⟨by omega,by rw[hz];omega⟩)
   rw[qq b (by omega),v2.near.block b (by simp;omega) (by omega),Below.heap_alloc _ _ _ hb.2]
 obtain⟨⟨r0,r1,r2⟩,f0,f1,f2⟩:=qeA ((aD.out.near.block w.heap.size (by omega) (by omega)).trans HZ.out)
 clear v1 v2 HE HY aB aD aC aE kk
 go_wp2_with fail
 refine bodyPost_ret (v:=.agg #[.int .i64 z0,.slice za zl zc,.slice ua ul uc]) (by simp[results,Tryz.results112,go_sem,r0,r1,r2]) rfl ?_
 exact HP.out
theorem qkE (s:ByteArray) (w:World):Calls Tryz.prog 111 #[.string s] w fun e w'=>e=.returned (.pointer (some ⟨w.heap.size,0,none⟩))/\w'=w.alloc (.cells #[.string s,.int .i64 0] 180):=by
 go_enter Tryz.func111,Tryz.ntmps111
 go_wp2_with fail
 go_ret
 exact⟨rfl,rfl⟩
theorem Tryz.assert_yes (w:World):(Instr.typeAssert (.iface 160 (.agg #[])) 20 160 true).run Tryz.prog w=.ok (.tuple #[.agg #[],.bool true]) w:=by kernel_rfl
theorem Tryz.assert_nil (w:World):(Instr.typeAssert .nilIface 20 160 true).run Tryz.prog w=.ok (.tuple #[.agg #[],.bool false]) w:=by kernel_rfl
theorem qpZ (w:World) :
  CallsD Tryz.prog 142 #[] (.panicking [{ v:=.iface 160 (.agg #[]),recovered:=false }]) w fun e u' w'=>
   e=.returned (.tuple #[])/\u'=.panicking [{ v:=.iface 160 (.agg #[]),recovered:=true }]/\w'=w:=by
 have aA:=Tryz.assert_yes
 refine callsD_of_wpS Tryz.func142 rfl fun c₀ cs hu=>?_
 apply wpS_seq
 apply wpS_region
 simp[wpOpsS,go_sem,recoverD,hu,Tryz.ntmps142,Exit.thenS]
 refine wpS_of_wp ?_
 go_wp2
 exact⟨rfl,_,rfl,.tuple #[],by simp[results,Tryz.results142],rfl,rfl,rfl⟩
theorem qqA (w:World) :
  CallsD Tryz.prog 142 #[] .returning w fun e u' w'=>e=.returned (.tuple #[])/\u'=.returning/\w'=w:=by
 have aA:=Tryz.assert_nil
 refine callsD_of_wpS Tryz.func142 rfl fun c₀ cs hu=>?_
 apply wpS_seq
 apply wpS_region
 simp[wpOpsS,go_sem,recoverD,hu,Tryz.ntmps142,Exit.thenS]
 refine wpS_of_wp ?_
 go_wp2
 exact⟨rfl,_,by rw[<- hu],.tuple #[],by simp[results,Tryz.results142],rfl,rfl,rfl⟩
def qhN (R:Nat) (s:ByteArray) (m:Nat) (w:World) (e:Ending) (w':World):Prop:=
 Near R w w' /\ ((∃ (k:K m) (c0 c1 c2:Value),qaM m s.data.toList=some (k,[])/\e=.returned (.tuple #[.agg #[c0,c1,c2],.bool true])/\KindIn (fun b=>w.heap.size<=b/\b<w'.heap.size) w' m k c0 c1 c2) ∨
  ((∀ k,qaM m s.data.toList≠some (k,[]))/\e=.returned (.tuple #[.agg #[.int .i64 0,.slice none 0 0,.slice none 0 0],.bool false])))
theorem qyJ (m:Nat) (R:Nat) (s:ByteArray) (w:World) (h:Sc w R s 0) (hs:s.size<=10000) (hm:s.size<m) :
  Calls Tryz.prog 110 #[.func (.func 112) #[.pointer (some ⟨R,0,none⟩)] #[]] w (qhN R s m w):=by
 have hR:=h.lt
 obtain⟨W,hW⟩:∃ W,W=w.alloc (.cells #[.int .i64 0,.slice none 0 0,.slice none 0 0] 55):=⟨_,rfl⟩
 have aD:W.heap.size=w.heap.size+1:=by rw[hW];simp
 have aC:Below w.heap.size w W:=by rw[hW];exact (Below.refl _ _).alloc (Nat.le_refl _) _
 have HZ:Hid (W.heap[w.heap.size]?=some (.cells #[.int .i64 0,.slice none 0 0,.slice none 0 0] 55 (0,0))):=by rw[hW];exact heap_alloc_new _ _
 have aB:Hid (Scan R w W 0):=(Scan.refl h).below aC hR
 have HC:Hid (Calls Tryz.prog 112 #[.pointer (some ⟨R,0,none⟩)] W (xdA R s m W)):=xdB m R s W (aB.out.sc h) hs hm
 clear h
 go_enter_defers Tryz.func110,Tryz.ntmps110
 go_wp2_with fail
 rw[<- hW]
 clear hW
 refine HC.out.mono ?_
 rintro e w1 ⟨hn,⟨k,c0,c1,c2,y1,rfl,y4⟩|⟨y1,rfl⟩⟩
 ·obtain⟨z0,za,zl,zc,ua,ul,uc,rfl,rfl,rfl⟩:=y4.shape
  have aE:=hn.size
  obtain⟨⟨r0,r1,r2⟩,f0,f1,f2⟩:=qeA ((hn.block w.heap.size (by omega) (by omega)).trans HZ.out)
  have HP:Hid (qhN R s m w (.returned (.tuple #[.agg #[.int .i64 z0,.slice za zl zc,.slice ua ul uc],.bool true])) (put3 w1 w.heap.size 0 (.int .i64 z0) (.slice za zl zc) (.slice ua ul uc))):=by
   have qq:∀ b,b≠w.heap.size->(put3 w1 w.heap.size 0 (.int .i64 z0) (.slice za zl zc) (.slice ua ul uc)).heap[b]?=w1.heap[b]?:=fun b h=>qcX h
   have hz:(put3 w1 w.heap.size 0 (.int .i64 z0) (.slice za zl zc) (.slice ua ul uc)).heap.size=w1.heap.size:=qfI
   have aA:=aB.out.near.trans hn
   exact⟨⟨aA.os,aA.tape,aA.output,by rw[hz];exact aA.size,fun b hb hne=>(qq b (by omega)).trans (aA.block b hb hne)⟩,.inl ⟨k,_,_,_,y1,rfl,y4.keep (fun b hb=>qq b (by omega)) (fun b hb=>⟨by omega,by rw[hz];omega⟩)⟩⟩
  clear HC y1 y4 hn
  go_wp2_with fail
  refine leaves_cons (f:=142) (args:=#[]) (by simp) (by simp[go_sem]) ?_
  refine (qqA _).mono ?_
  rintro e u' w'' ⟨rfl,rfl,rfl⟩
  exact⟨.tuple #[.agg #[.int .i64 z0,.slice za zl zc,.slice ua ul uc],.bool true],by simp[results,Tryz.results110,go_sem,r0,r1,r2],HP.out⟩
 ·obtain⟨⟨r0,r1,r2⟩,f0,f1,f2⟩:=qeA ((hn.block w.heap.size (by omega) (by omega)).trans HZ.out)
  have HP:Hid (qhN R s m w (.returned (.tuple #[.agg #[.int .i64 0,.slice none 0 0,.slice none 0 0],.bool false])) w1):=⟨aB.out.near.trans hn,.inr ⟨y1,rfl⟩⟩
  clear HC y1 hn
  refine leaves_cons (f:=142) (args:=#[]) (by simp) (by simp[go_sem]) ?_
  refine (qpZ _).mono ?_
  rintro e u' w'' ⟨rfl,rfl,rfl⟩
  exact⟨.tuple #[.agg #[.int .i64 0,.slice none 0 0,.slice none 0 0],.bool false],by simp[results,Tryz.results110,go_sem,r0,r1,r2],HP.out⟩
end Go.Proofs.YtelogmjfekhmpaaGreatDoor
