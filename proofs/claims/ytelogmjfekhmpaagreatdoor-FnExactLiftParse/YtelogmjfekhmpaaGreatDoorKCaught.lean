import Derived.Test.YtelogmjfekhmpaaGreatDoorB17
import Derived.Defers
import Derived.Recover
namespace Go.Proofs.YtelogmjfekhmpaaGreatDoor
set_option maxRecDepth 100000
set_option maxHeartbeats 16000000
open Go.RowKit Go.Proofs.Tryz
def xdA(R:Nat)(s:ByteArray)(m:Nat)(w:World)(e:Ending)(w':World):Prop:=
 Near R w w' /\ ((∃(k:K m)(c0 c1 c2:Value),qaM m s.data.toList=some (k,[])/\e=.returned (.agg #[c0,c1,c2])/\KindIn (fun b=>w.heap.size<=b/\b<w'.heap.size) w' m k c0 c1 c2) ∨
  ((∀k,qaM m s.data.toList≠some (k,[]))/\e=.panicked refusal))
theorem xdB (m:Nat) (R:Nat) (s:ByteArray) (w:World) (h:Sc w R s 0) (hs:s.size<=10000) (hm:s.size<m) :
  Calls prog 112 #[.pointer (some ⟨R,0,none⟩)] w (xdA R s m w):=by
 have M:=h.lt
 obtain⟨W,z⟩:∃W,W=w.alloc (.cells #[.int .i64 0,.slice none 0 0,.slice none 0 0] 55):=⟨_,rfl⟩
 have N:W.heap.size=w.heap.size+1:=by rw[z];simp
 have B:Below w.heap.size w W:=by rw[z];exact (Below.refl _ _).alloc (Nat.le_refl _) _
 have O:Hid (W.heap[w.heap.size]?=some (.cells #[.int .i64 0,.slice none 0 0,.slice none 0 0] 55 (0,0))):=by rw[z];exact heap_alloc_new _ _
 have d:Hid (Scan R w W 0):=(Scan.refl h).below B M
 have C:Hid (Sc w R s 0):=h
 have H:Hid (Calls prog 143 #[.pointer (some ⟨R,0,none⟩)] W (qgO R s 0 m W)):=xgS m R s 0 W (d.out.sc h) (Nat.zero_le _) hs (by omega)
 clear h
 go_enter func112,ntmps112
 go_wp2_with fail
 rw[<- z]
 clear z
 refine H.out.mono ?_
 rintro e c (⟨k,q,c0,c1,c2,u,L,Y,rfl,E,F⟩|⟨u,rfl,L⟩)
 case inr=>
  rw[List.drop_zero]at u
  exact⟨rfl,d.out.near.trans L,.inr ⟨fun k e=>(by rw[u]at e;cases e),rfl⟩⟩
 rw[List.drop_zero]at u
 obtain⟨z0,f,g,i,j,l,n,rfl,rfl,rfl⟩:=E.shape
 have P:=F.near.size
 have x:Below c.heap.size c (c.alloc (.cells #[.int .i64 z0,.slice f g i,.slice j l n] 55)):=(Below.refl _ _).alloc (Nat.le_refl _) _
 have p:Hid (Scan R W (c.alloc (.cells #[.int .i64 z0,.slice f g i,.slice j l n] 55)) q):=F.below x (by omega)
 have r:=Box3.new c (.int .i64 z0) (.slice f g i) (.slice j l n) 55
 have I:Hid (Calls prog 134 #[.pointer (some ⟨R,0,none⟩)] (c.alloc (.cells #[.int .i64 z0,.slice f g i,.slice j l n] 55)) _):=qmG _ R s q ((d.out.trans p.out).sc C.out)
 have A:Hid (KindIn (fun b=>W.heap.size<=b/\b<c.heap.size) c m k (.int .i64 z0) (.slice f g i) (.slice j l n)/\qaM m s.data.toList=some (k,s.data.toList.drop q)):=⟨E,u⟩
 clear H u E F
 go_wp2_with fail
 refine I.out.mono ?_
 rintro e w2 (⟨G,rfl,v2⟩|⟨G,rfl,v2⟩)
 case inr=>
  refine⟨rfl,(d.out.trans p.out).near.trans v2,.inr ⟨fun k' e=>?_,rfl⟩⟩
  rw[A.out.2]at e
  simp only[Option.some.injEq,Prod.mk.injEq]at e
  have:=congrArg List.length e.2
  simp at this
  omega
 have D:=v2.near.size
 simp only[World.size_alloc]at D
 have kk:∀o,w2.cell? ⟨c.heap.size,o,none⟩=(c.alloc (.cells #[.int .i64 z0,.slice f g i,.slice j l n] 55)).cell? ⟨c.heap.size,o,none⟩:=fun o=>World.cell?_of_block (a:=⟨c.heap.size,o,none⟩) (v2.near.block c.heap.size (by simp) (by omega))
 have U:=(kk 0).trans r.c0
 have V:=(kk 1).trans r.c1
 have X:=(kk 2).trans r.c2
 have t:Hid (Scan R W w2 q):=p.out.trans v2
 have Q:Hid (xdA R s m w (.returned (.agg #[.int .i64 z0,.slice f g i,.slice j l n])) (put3 w2 w.heap.size 0 (.int .i64 z0) (.slice f g i) (.slice j l n))):=by
  have J:∀b,b≠w.heap.size->(put3 w2 w.heap.size 0 (.int .i64 z0) (.slice f g i) (.slice j l n)).heap[b]?=w2.heap[b]?:=fun b h=>qcV h
  have K:(put3 w2 w.heap.size 0 (.int .i64 z0) (.slice f g i) (.slice j l n)).heap.size=w2.heap.size:=qfG
  have y:=(d.out.trans t.out).near
  refine⟨⟨y.os,y.tape,y.output,by rw[K];exact y.size,fun b hb hne=>(J b (by omega)).trans (y.block b hb hne)⟩,.inl ⟨k,_,_,_,?_,rfl,?_⟩⟩
  ·rw[A.out.2,G,List.drop_of_length_le (by simp)]
  ·refine A.out.1.keep (fun b hb=>?_) (fun b hb=>⟨by omega,by rw[K];omega⟩)
   rw[J b (by omega),v2.near.block b (by simp;omega) (by omega),Below.heap_alloc _ _ _ hb.2]
 obtain⟨⟨r0,S,T⟩,Z,f1,f2⟩:=qdX ((t.out.near.block w.heap.size (by omega) (by omega)).trans O.out)
 clear G v2 I A p t r x kk
 go_wp2_with fail
 refine bodyPost_ret (v:=.agg #[.int .i64 z0,.slice f g i,.slice j l n]) (by simp[results,results112,go_sem,r0,S,T]) rfl ?_
 exact Q.out
theorem qjZ(s:ByteArray)(w:World):Calls prog 111 #[.string s] w fun e w'=>e=.returned (.pointer (some ⟨w.heap.size,0,none⟩))/\w'=w.alloc (.cells #[.string s,.int .i64 0] 180):=by
 go_enter func111,ntmps111
 go_wp2_with fail
 go_ret
 exact⟨rfl,rfl⟩
theorem Tryz.assert_yes(w:World):(Instr.typeAssert (.iface 160 (.agg #[])) 20 160 true).run prog w=.ok (.tuple #[.agg #[],.bool true]) w:=by kernel_rfl
theorem Tryz.assert_nil(w:World):(Instr.typeAssert .nilIface 20 160 true).run prog w=.ok (.tuple #[.agg #[],.bool false]) w:=by kernel_rfl
theorem qpZ (w:World) :
  CallsD prog 142 #[] (.panicking [{ v:=.iface 160 (.agg #[]),recovered:=false }]) w fun e u' w'=>
   e=.returned (.tuple #[])/\u'=.panicking [{ v:=.iface 160 (.agg #[]),recovered:=true }]/\w'=w:=by
 have a:=Tryz.assert_yes
 refine callsD_of_wpS func142 rfl fun c₀ cs hu=>?_
 apply wpS_seq
 apply wpS_region
 simp[wpOpsS,go_sem,recoverD,hu,ntmps142,Exit.thenS]
 refine wpS_of_wp ?_
 go_wp2
 exact⟨rfl,_,rfl,.tuple #[],by simp[results,results142],rfl,rfl,rfl⟩
theorem qqA (w:World) :
  CallsD prog 142 #[] .returning w fun e u' w'=>e=.returned (.tuple #[])/\u'=.returning/\w'=w:=by
 have a:=Tryz.assert_nil
 refine callsD_of_wpS func142 rfl fun c₀ cs hu=>?_
 apply wpS_seq
 apply wpS_region
 simp[wpOpsS,go_sem,recoverD,hu,ntmps142,Exit.thenS]
 refine wpS_of_wp ?_
 go_wp2
 exact⟨rfl,_,by rw[<- hu],.tuple #[],by simp[results,results142],rfl,rfl,rfl⟩
def qhL(R:Nat)(s:ByteArray)(m:Nat)(w:World)(e:Ending)(w':World):Prop:=
 Near R w w' /\ ((∃(k:K m)(c0 c1 c2:Value),qaM m s.data.toList=some (k,[])/\e=.returned (.tuple #[.agg #[c0,c1,c2],.bool true])/\KindIn (fun b=>w.heap.size<=b/\b<w'.heap.size) w' m k c0 c1 c2) ∨
  ((∀k,qaM m s.data.toList≠some (k,[]))/\e=.returned (.tuple #[.agg #[.int .i64 0,.slice none 0 0,.slice none 0 0],.bool false])))
theorem qyJ (m:Nat) (R:Nat) (s:ByteArray) (w:World) (h:Sc w R s 0) (hs:s.size<=10000) (hm:s.size<m) :
  Calls prog 110 #[.func (.func 112) #[.pointer (some ⟨R,0,none⟩)] #[]] w (qhL R s m w):=by
 have E:=h.lt
 obtain⟨W,i⟩:∃W,W=w.alloc (.cells #[.int .i64 0,.slice none 0 0,.slice none 0 0] 55):=⟨_,rfl⟩
 have F:W.heap.size=w.heap.size+1:=by rw[i];simp
 have t:Below w.heap.size w W:=by rw[i];exact (Below.refl _ _).alloc (Nat.le_refl _) _
 have B:Hid (W.heap[w.heap.size]?=some (.cells #[.int .i64 0,.slice none 0 0,.slice none 0 0] 55 (0,0))):=by rw[i];exact heap_alloc_new _ _
 have c:Hid (Scan R w W 0):=(Scan.refl h).below t E
 have u:Hid (Calls prog 112 #[.pointer (some ⟨R,0,none⟩)] W (xdA R s m W)):=xdB m R s W (c.out.sc h) hs hm
 clear h
 go_enter_defers func110,ntmps110
 go_wp2_with fail
 rw[<- i]
 clear i
 refine u.out.mono ?_
 rintro e g ⟨d,⟨k,c0,c1,c2,j,rfl,x⟩|⟨j,rfl⟩⟩
 ·obtain⟨z0,l,n,o,p,q,r,rfl,rfl,rfl⟩:=x.shape
  have G:=d.size
  obtain⟨⟨r0,y,z⟩,H,f1,I⟩:=qdX ((d.block w.heap.size (by omega) (by omega)).trans B.out)
  have v:Hid (qhL R s m w (.returned (.tuple #[.agg #[.int .i64 z0,.slice l n o,.slice p q r],.bool true])) (put3 g w.heap.size 0 (.int .i64 z0) (.slice l n o) (.slice p q r))):=by
   have C:∀b,b≠w.heap.size->(put3 g w.heap.size 0 (.int .i64 z0) (.slice l n o) (.slice p q r)).heap[b]?=g.heap[b]?:=fun b h=>qcV h
   have D:(put3 g w.heap.size 0 (.int .i64 z0) (.slice l n o) (.slice p q r)).heap.size=g.heap.size:=qfG
   have a:=c.out.near.trans d
   exact⟨⟨a.os,a.tape,a.output,by rw[D];exact a.size,fun b hb hne=>(C b (by omega)).trans (a.block b hb hne)⟩,.inl ⟨k,_,_,_,j,rfl,x.keep (fun b hb=>C b (by omega)) (fun b hb=>⟨by omega,by rw[D];omega⟩)⟩⟩
  clear u j x d
  go_wp2_with fail
  refine leaves_cons (f:=142) (args:=#[]) (by simp) (by simp[go_sem]) ?_
  refine (qqA _).mono ?_
  rintro e u' A ⟨rfl,rfl,rfl⟩
  exact⟨.tuple #[.agg #[.int .i64 z0,.slice l n o,.slice p q r],.bool true],by simp[results,results110,go_sem,r0,y,z],v.out⟩
 ·obtain⟨⟨r0,y,z⟩,H,f1,I⟩:=qdX ((d.block w.heap.size (by omega) (by omega)).trans B.out)
  have v:Hid (qhL R s m w (.returned (.tuple #[.agg #[.int .i64 0,.slice none 0 0,.slice none 0 0],.bool false])) g):=⟨c.out.near.trans d,.inr ⟨j,rfl⟩⟩
  clear u j d
  refine leaves_cons (f:=142) (args:=#[]) (by simp) (by simp[go_sem]) ?_
  refine (qpZ _).mono ?_
  rintro e u' A ⟨rfl,rfl,rfl⟩
  exact⟨.tuple #[.agg #[.int .i64 0,.slice none 0 0,.slice none 0 0],.bool false],by simp[results,results110,go_sem,r0,y,z],v.out⟩
end Go.Proofs.YtelogmjfekhmpaaGreatDoor
