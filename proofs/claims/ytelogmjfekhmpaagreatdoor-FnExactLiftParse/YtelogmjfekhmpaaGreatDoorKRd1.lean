import Derived.Test.YtelogmjfekhmpaaGreatDoorKRd0
import Derived.Test.YtelogmjfekhmpaaGreatDoorKAns
namespace Go.Proofs.YtelogmjfekhmpaaGreatDoor
set_option maxRecDepth 100000
set_option maxHeartbeats 16000000
open Go.RowKit
theorem qgM (S:Nat->Prop) (w:World) (m:Nat) (x:Int) (hx:(Lit.int .i64 x).wf=true):KindIn S w (m+1) (⟨x,[],[]⟩:Kd (K m)) (.int .i64 x) (.slice none 0 0) (.slice none 0 0):=
 ⟨rfl,hx,⟨none,0,rfl,by simp[maxLen],fun s h=>(by cases h),fun h=>absurd rfl h⟩,⟨none,0,rfl,by simp[maxLen],fun h=>absurd rfl h⟩⟩
theorem qbY {w:World} {N:Nat} (h:w.heap[N]?=some (.cells #[.int .i64 0,.slice none 0 0,.slice none 0 0] 55 (0,0))) :
  (w.cell? ⟨N,0,none⟩=some (.int .i64 0)/\w.cell? ⟨N,1,none⟩=some (.slice none 0 0)/\w.cell? ⟨N,2,none⟩=some (.slice none 0 0)) /\
   w.frozen? ⟨N,0,none⟩=false/\w.frozen? ⟨N,1,none⟩=false/\w.frozen? ⟨N,2,none⟩=false:=by
 refine⟨⟨?_,?_,?_⟩,?_,?_,?_⟩ <;> simp[World.cell?,World.frozen?,h]
theorem xeB (n m R:Nat) (s:ByteArray) (i:Nat) (bad:Bool) (w:World) (h:RdS w R s i bad) (hb:bad=true∨n=0) (hi:bad=false->i<=s.size) :
  Calls Tryz.prog 41 #[.pointer (some ⟨R,0,none⟩),.int .i64 (7 - (n:Int))] w (qbD (m+1) n w R s i bad):=by
 have hR:=h.lt
 have hG:GotK (m+1) n s i bad (⟨0,[],[]⟩:Kd (K m)) i true:=by
  refine⟨Nat.le_refl _,fun h=>(by cases h),fun hf=>(by have:=hi hf;omega),fun _=>rfl,fun t0 post hf he hg=>?_⟩
  rcases hb with hb|hb
  ·rw[hb]at hf;cases hf
  ·subst hb
   simp[goodK]at hg
 have HP:Hid (∀ o,qbD (m+1) n w R s i bad (.returned (.agg #[.int .i64 0,.slice none 0 0,.slice none 0 0])) ((w.setCell ⟨R,2,none⟩ (.bool true)).alloc o)):=fun o=>
  ⟨(Near.set R 2 w _).trans (Near.alloc _ _ _),_,_,_,_,i,true,rfl,qgM _ _ m 0 rfl,(Below.heap_alloc _ _ _ (by simpa using hR)).trans (h.set2 true),hG⟩
 have c2:=h.cell2
 have fz:=h.free 2
 have aA:bad=false->(6:Int)<7 - (n:Int):=fun hf=>by
  rcases hb with hb|hb
  ·rw[hb]at hf;cases hf
  ·omega
 clear hG h
 cases bad with
 | true=>
  clear aA hi
  go_enter Tryz.func41,Tryz.ntmps41
  go_wp2_with fail
  refine bodyPost_ret (v:=.agg #[.int .i64 0,.slice none 0 0,.slice none 0 0]) (by simp[results,Tryz.results41,go_sem]) rfl ?_
  exact HP.out _
 | false=>
  have aB:=aA rfl
  clear aA hi
  go_enter Tryz.func41,Tryz.ntmps41
  go_wp2_with fail
  refine bodyPost_ret (v:=.agg #[.int .i64 0,.slice none 0 0,.slice none 0 0]) (by simp[results,Tryz.results41,go_sem]) rfl ?_
  exact HP.out _
theorem l2_num (n m R:Nat) (s:ByteArray) (i:Nat) (w:World) (h:RdS w R s i false) (hs:s.size<=10000) (hi:i<=s.size) (hl:lookB s i=110) :
  Calls Tryz.prog 41 #[.pointer (some ⟨R,0,none⟩),.int .i64 (7 - ((n+1:Nat):Int))] w (qbD (m+1) (n+1) w R s i false):=by
 have hR:=h.lt
 obtain⟨W1,aC⟩:∃ W1,W1=w.alloc (.cells #[.int .i64 0,.slice none 0 0,.slice none 0 0] 55):=⟨_,rfl⟩
 have aL:W1.heap.size=w.heap.size+1:=by rw[aC];simp
 have aF:Below w.heap.size w W1:=by rw[aC];exact (Below.refl _ _).alloc (Nat.le_refl _) _
 have aB:W1.heap[w.heap.size]?=some (.cells #[.int .i64 0,.slice none 0 0,.slice none 0 0] 55 (0,0)):=by rw[aC];exact heap_alloc_new _ _
 have aE:RdS W1 R s i false:=(aF.block R hR).trans h
 have c2:=aE.cell2
 rw[aC]at c2
 have aH:¬ (6:Int)<7 - ((n+1:Nat):Int):=by omega
 have HL:Hid (Calls Tryz.prog 56 #[.pointer (some ⟨R,0,none⟩)] W1 fun e w'=>e=.returned (.int .u8 (((lookB s i).toNat:Nat):Int))/\Near R w w' /\ RdS w' R s i false/\w'.heap.size=w.heap.size+1/\w'.heap[w.heap.size]?=some (.cells #[.int .i64 0,.slice none 0 0,.slice none 0 0] 55 (0,0))):=
  (qbL W1 R s i false aE).mono fun e w' ⟨he,k,hk⟩=>by
   subst hk
   exact⟨he,((Near.of_below aF).trans (Near.refl R W1)).drewN k,aE.drewN k,aL,aB⟩
 have aI:Hid (lookB s i=110):=hl
 have hc:((lookB s i).toNat:Nat)=110:=by rw[hl];rfl
 rw[hc]at HL
 clear aE aB aF h hl hc
 generalize hdp:7 - ((n+1:Nat):Int)=dp at *
 go_enter Tryz.func41,Tryz.ntmps41
 go_wp2_with fail
 rw[<- aC]
 clear aC c2
 refine HL.out.mono ?_
 rintro e w2 ⟨rfl,aG,aJ,aN,aA⟩
 have HE:Hid (Calls Tryz.prog 57 #[.pointer (some ⟨R,0,none⟩),.string ⟨#[110,117,109]⟩] w2 _):=qcK w2 R s ⟨#[110,117,109]⟩ i false aJ hs (by decide) hi
 clear HL aJ
 go_wp2_with fail
 refine HE.out.mono ?_
 rintro e w3 ⟨rfl,aD,aK⟩
 have aM:=aD.size
 obtain⟨⟨r0,r1,r2⟩,f0,f1,f2⟩:=qbY ((aD.block w.heap.size (by omega) (by omega)).trans aA)
 have HP:Hid (qbD (m+1) (n+1) w R s i false (.returned (.agg #[.int .i64 1,.slice none 0 0,.slice none 0 0])) (put3 w3 w.heap.size 0 (.int .i64 1) (.slice none 0 0) (.slice none 0 0))):=by
  rcases aK with ⟨q1,q2,q3⟩|⟨q1,q3⟩
  ·exact qgL (aG.trans aD) hR q3 (qgM _ _ m 1 rfl) (qhQ (x:=⟨#[110,117,109]⟩) hi (.inl ⟨q1,q2,rfl,rfl⟩) (by decide) (fun t0 post he hg=>xdZ aI.out t0 post he hg))
  ·exact qgL (aG.trans aD) hR q3 (qgM _ _ m 1 rfl) (qhQ (x:=⟨#[110,117,109]⟩) hi (.inr ⟨q1,rfl,rfl⟩) (by decide) (fun t0 post he hg=>xdZ aI.out t0 post he hg))
 clear HE aK aD aG aA
 go_wp2_with fail
 refine bodyPost_ret (v:=.agg #[.int .i64 1,.slice none 0 0,.slice none 0 0]) (by simp[results,Tryz.results41,go_sem,r0,r1,r2]) rfl ?_
 exact HP.out
theorem xjK (n m R:Nat) (s:ByteArray) (i:Nat) (w:World) (h:RdS w R s i false) (hs:s.size<=10000) (hi:i<=s.size) (hl:lookB s i=116) :
  Calls Tryz.prog 41 #[.pointer (some ⟨R,0,none⟩),.int .i64 (7 - ((n+1:Nat):Int))] w (qbD (m+1) (n+1) w R s i false):=by
 have hR:=h.lt
 obtain⟨W1,aC⟩:∃ W1,W1=w.alloc (.cells #[.int .i64 0,.slice none 0 0,.slice none 0 0] 55):=⟨_,rfl⟩
 have aL:W1.heap.size=w.heap.size+1:=by rw[aC];simp
 have aF:Below w.heap.size w W1:=by rw[aC];exact (Below.refl _ _).alloc (Nat.le_refl _) _
 have aB:W1.heap[w.heap.size]?=some (.cells #[.int .i64 0,.slice none 0 0,.slice none 0 0] 55 (0,0)):=by rw[aC];exact heap_alloc_new _ _
 have aE:RdS W1 R s i false:=(aF.block R hR).trans h
 have c2:=aE.cell2
 rw[aC]at c2
 have aH:¬ (6:Int)<7 - ((n+1:Nat):Int):=by omega
 have HL:Hid (Calls Tryz.prog 56 #[.pointer (some ⟨R,0,none⟩)] W1 fun e w'=>e=.returned (.int .u8 (((lookB s i).toNat:Nat):Int))/\Near R w w' /\ RdS w' R s i false/\w'.heap.size=w.heap.size+1/\w'.heap[w.heap.size]?=some (.cells #[.int .i64 0,.slice none 0 0,.slice none 0 0] 55 (0,0))):=
  (qbL W1 R s i false aE).mono fun e w' ⟨he,k,hk⟩=>by
   subst hk
   exact⟨he,((Near.of_below aF).trans (Near.refl R W1)).drewN k,aE.drewN k,aL,aB⟩
 have aI:Hid (lookB s i=116):=hl
 have hc:((lookB s i).toNat:Nat)=116:=by rw[hl];rfl
 rw[hc]at HL
 clear aE aB aF h hl hc
 generalize hdp:7 - ((n+1:Nat):Int)=dp at *
 go_enter Tryz.func41,Tryz.ntmps41
 go_wp2_with fail
 rw[<- aC]
 clear aC c2
 refine HL.out.mono ?_
 rintro e w2 ⟨rfl,aG,aJ,aN,aA⟩
 have HE:Hid (Calls Tryz.prog 57 #[.pointer (some ⟨R,0,none⟩),.string ⟨#[116,101,120,116]⟩] w2 _):=qcK w2 R s ⟨#[116,101,120,116]⟩ i false aJ hs (by decide) hi
 clear HL aJ
 go_wp2_with fail
 refine HE.out.mono ?_
 rintro e w3 ⟨rfl,aD,aK⟩
 have aM:=aD.size
 obtain⟨⟨r0,r1,r2⟩,f0,f1,f2⟩:=qbY ((aD.block w.heap.size (by omega) (by omega)).trans aA)
 have HP:Hid (qbD (m+1) (n+1) w R s i false (.returned (.agg #[.int .i64 2,.slice none 0 0,.slice none 0 0])) (put3 w3 w.heap.size 0 (.int .i64 2) (.slice none 0 0) (.slice none 0 0))):=by
  rcases aK with ⟨q1,q2,q3⟩|⟨q1,q3⟩
  ·exact qgL (aG.trans aD) hR q3 (qgM _ _ m 2 rfl) (qhQ (x:=⟨#[116,101,120,116]⟩) hi (.inl ⟨q1,q2,rfl,rfl⟩) (by decide) (fun t0 post he hg=>qwX aI.out t0 post he hg))
  ·exact qgL (aG.trans aD) hR q3 (qgM _ _ m 2 rfl) (qhQ (x:=⟨#[116,101,120,116]⟩) hi (.inr ⟨q1,rfl,rfl⟩) (by decide) (fun t0 post he hg=>qwX aI.out t0 post he hg))
 clear HE aK aD aG aA
 go_wp2_with fail
 refine bodyPost_ret (v:=.agg #[.int .i64 2,.slice none 0 0,.slice none 0 0]) (by simp[results,Tryz.results41,go_sem,r0,r1,r2]) rfl ?_
 exact HP.out
theorem xjL (n m R:Nat) (s:ByteArray) (i:Nat) (w:World) (h:RdS w R s i false) (hs:s.size<=10000) (hi:i<=s.size) (hl:lookB s i=102) :
  Calls Tryz.prog 41 #[.pointer (some ⟨R,0,none⟩),.int .i64 (7 - ((n+1:Nat):Int))] w (qbD (m+1) (n+1) w R s i false):=by
 have hR:=h.lt
 obtain⟨W1,aC⟩:∃ W1,W1=w.alloc (.cells #[.int .i64 0,.slice none 0 0,.slice none 0 0] 55):=⟨_,rfl⟩
 have aL:W1.heap.size=w.heap.size+1:=by rw[aC];simp
 have aF:Below w.heap.size w W1:=by rw[aC];exact (Below.refl _ _).alloc (Nat.le_refl _) _
 have aB:W1.heap[w.heap.size]?=some (.cells #[.int .i64 0,.slice none 0 0,.slice none 0 0] 55 (0,0)):=by rw[aC];exact heap_alloc_new _ _
 have aE:RdS W1 R s i false:=(aF.block R hR).trans h
 have c2:=aE.cell2
 rw[aC]at c2
 have aH:¬ (6:Int)<7 - ((n+1:Nat):Int):=by omega
 have HL:Hid (Calls Tryz.prog 56 #[.pointer (some ⟨R,0,none⟩)] W1 fun e w'=>e=.returned (.int .u8 (((lookB s i).toNat:Nat):Int))/\Near R w w' /\ RdS w' R s i false/\w'.heap.size=w.heap.size+1/\w'.heap[w.heap.size]?=some (.cells #[.int .i64 0,.slice none 0 0,.slice none 0 0] 55 (0,0))):=
  (qbL W1 R s i false aE).mono fun e w' ⟨he,k,hk⟩=>by
   subst hk
   exact⟨he,((Near.of_below aF).trans (Near.refl R W1)).drewN k,aE.drewN k,aL,aB⟩
 have aI:Hid (lookB s i=102):=hl
 have hc:((lookB s i).toNat:Nat)=102:=by rw[hl];rfl
 rw[hc]at HL
 clear aE aB aF h hl hc
 generalize hdp:7 - ((n+1:Nat):Int)=dp at *
 go_enter Tryz.func41,Tryz.ntmps41
 go_wp2_with fail
 rw[<- aC]
 clear aC c2
 refine HL.out.mono ?_
 rintro e w2 ⟨rfl,aG,aJ,aN,aA⟩
 have HE:Hid (Calls Tryz.prog 57 #[.pointer (some ⟨R,0,none⟩),.string ⟨#[102,108,97,103]⟩] w2 _):=qcK w2 R s ⟨#[102,108,97,103]⟩ i false aJ hs (by decide) hi
 clear HL aJ
 go_wp2_with fail
 refine HE.out.mono ?_
 rintro e w3 ⟨rfl,aD,aK⟩
 have aM:=aD.size
 obtain⟨⟨r0,r1,r2⟩,f0,f1,f2⟩:=qbY ((aD.block w.heap.size (by omega) (by omega)).trans aA)
 have HP:Hid (qbD (m+1) (n+1) w R s i false (.returned (.agg #[.int .i64 3,.slice none 0 0,.slice none 0 0])) (put3 w3 w.heap.size 0 (.int .i64 3) (.slice none 0 0) (.slice none 0 0))):=by
  rcases aK with ⟨q1,q2,q3⟩|⟨q1,q3⟩
  ·exact qgL (aG.trans aD) hR q3 (qgM _ _ m 3 rfl) (qhQ (x:=⟨#[102,108,97,103]⟩) hi (.inl ⟨q1,q2,rfl,rfl⟩) (by decide) (fun t0 post he hg=>qwY aI.out t0 post he hg))
  ·exact qgL (aG.trans aD) hR q3 (qgM _ _ m 3 rfl) (qhQ (x:=⟨#[102,108,97,103]⟩) hi (.inr ⟨q1,rfl,rfl⟩) (by decide) (fun t0 post he hg=>qwY aI.out t0 post he hg))
 clear HE aK aD aG aA
 go_wp2_with fail
 refine bodyPost_ret (v:=.agg #[.int .i64 3,.slice none 0 0,.slice none 0 0]) (by simp[results,Tryz.results41,go_sem,r0,r1,r2]) rfl ?_
 exact HP.out
end Go.Proofs.YtelogmjfekhmpaaGreatDoor
