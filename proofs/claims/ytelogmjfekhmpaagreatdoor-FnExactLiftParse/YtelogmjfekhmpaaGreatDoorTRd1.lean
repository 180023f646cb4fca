import Derived.Test.YtelogmjfekhmpaaGreatDoorTRdP
namespace Go.Proofs.YtelogmjfekhmpaaGreatDoor
set_option maxRecDepth 100000
set_option maxHeartbeats 16000000
open Go.RowKit
theorem qbI {w:World} {N:Nat} (h:w.heap[N]?=some (.cells #[.int .i64 0,.int .i64 0,.string ⟨#[]⟩,.slice none 0 0,.slice none 0 0] 67 (0,0))) :
  (w.cell? ⟨N,0,none⟩=some (.int .i64 0)/\w.cell? ⟨N,1,none⟩=some (.int .i64 0)/\w.cell? ⟨N,2,none⟩=some (.string ⟨#[]⟩)/\w.cell? ⟨N,3,none⟩=some (.slice none 0 0)/\w.cell? ⟨N,4,none⟩=some (.slice none 0 0)) /\
   w.frozen? ⟨N,0,none⟩=false/\w.frozen? ⟨N,1,none⟩=false/\w.frozen? ⟨N,2,none⟩=false/\w.frozen? ⟨N,3,none⟩=false/\w.frozen? ⟨N,4,none⟩=false:=by
 refine⟨⟨?_,?_,?_,?_,?_⟩,?_,?_,?_,?_,?_⟩ <;> simp[World.cell?,World.frozen?,h]
theorem qdY (S:Nat->Prop) (w:World) (m:Nat) (x v:Int) (tx:ByteArray) (hx:(Lit.int .i64 x).wf=true) (hv:(Lit.int .i64 v).wf=true) (ht:tx.size<=10000):TreeIn S w (m+1) (⟨x,v,tx,[],[]⟩:Nd (T m)) (.int .i64 x) (.int .i64 v) (.string tx) (.slice none 0 0) (.slice none 0 0):=
 ⟨rfl,rfl,rfl,by show tx.size<=_;unfold maxLen;omega,hx,hv,⟨none,0,rfl,by simp[maxLen],fun s h=>(by cases h),fun h=>absurd rfl h⟩,⟨none,0,rfl,by simp[maxLen],fun h=>absurd rfl h⟩⟩
theorem wfT (x:Int) (h0 : -9999999999<=x) (h1:x<=9999999999):(Lit.int .i64 x).wf=true:=by
 simp only[Lit.wf,Bool.and_eq_true,decide_eq_true_eq]
 have a:IntKind.i64.min = -9223372036854775808:=by rfl
 have b:IntKind.i64.max=9223372036854775807:=by rfl
 rw[a,b];omega
theorem qfF {m n R i i':Nat} {s:ByteArray} {bad bad':Bool} {w W:World} {t:T m} {g0 g1 g2 g3 g4:Value} (hn:Near R w W) (hR:R<w.heap.size) (hr:RdS W R s i' bad') (hk:TreeIn (fun b=>w.heap.size+1<=b/\b<W.heap.size) W m t g0 g1 g2 g3 g4) (hg:GotT m n s i bad t i' bad') :
  qbB m n w R s i bad (.returned (.agg #[g0,g1,g2,g3,g4])) (put5 W w.heap.size 0 g0 g1 g2 g3 g4):=by
 have q:∀ b,b≠w.heap.size->(put5 W w.heap.size 0 g0 g1 g2 g3 g4).heap[b]?=W.heap[b]?:=fun b h=>qaS h
 have hz:(put5 W w.heap.size 0 g0 g1 g2 g3 g4).heap.size=W.heap.size:=qbQ
 have aA:Below 0 W (put5 W w.heap.size 0 g0 g1 g2 g3 g4):=qaZ (Below.refl 0 W) (Nat.zero_le _)
 exact⟨⟨aA.os.trans hn.os,aA.tape.trans hn.tape,aA.output.trans hn.output,by rw[hz];exact hn.size,fun b hb hne=>(q b (by omega)).trans (hn.block b hb hne)⟩,t,_,_,_,_,_,i',bad',rfl,hk.keep (fun b hb=>q b (by omega)) (fun b hb=>⟨by omega,by rw[hz];exact hb.2⟩),(q R (by omega)).trans hr,hg⟩
theorem xbN (n m R:Nat) (s:ByteArray) (i:Nat) (bad:Bool) (w:World) (h:RdS w R s i bad) (hb:bad=true∨n=0) (hi:bad=false->i<=s.size) :
  Calls Tryz.prog 54 #[.pointer (some ⟨R,0,none⟩),.int .i64 (7 - (n:Int))] w (qbB (m+1) n w R s i bad):=by
 have hR:=h.lt
 have hG:GotT (m+1) n s i bad (⟨0,0,⟨#[]⟩,[],[]⟩:Nd (T m)) i true:=by
  refine⟨Nat.le_refl _,fun h=>(by cases h),fun hf=>(by have:=hi hf;omega),fun _=>rfl,fun t0 post hf he hg _=>?_⟩
  rcases hb with hb|hb
  ·rw[hb]at hf;cases hf
  ·subst hb
   simp[goodT]at hg
 have HP:Hid (∀ o,qbB (m+1) n w R s i bad (.returned (.agg #[.int .i64 0,.int .i64 0,.string ⟨#[]⟩,.slice none 0 0,.slice none 0 0])) ((w.setCell ⟨R,2,none⟩ (.bool true)).alloc o)):=fun o=>
  ⟨(Near.set R 2 w _).trans (Near.alloc _ _ _),_,_,_,_,_,_,i,true,rfl,qdY _ _ m 0 0 _ rfl rfl (by decide),(Below.heap_alloc _ _ _ (by simpa using hR)).trans (h.set2 true),hG⟩
 have c2:=h.cell2
 have fz:=h.free 2
 have aA:bad=false->(6:Int)<7 - (n:Int):=fun hf=>by
  rcases hb with hb|hb
  ·rw[hb]at hf;cases hf
  ·omega
 clear hG h
 cases bad with
 | true=>
  clear aA hi
  go_enter Tryz.func54,Tryz.ntmps54
  go_wp2_with fail
  refine bodyPost_ret (v:=.agg #[.int .i64 0,.int .i64 0,.string ⟨#[]⟩,.slice none 0 0,.slice none 0 0]) (by simp[results,Tryz.results54,go_sem]) rfl ?_
  exact HP.out _
 | false=>
  have aB:=aA rfl
  clear aA hi
  go_enter Tryz.func54,Tryz.ntmps54
  go_wp2_with fail
  refine bodyPost_ret (v:=.agg #[.int .i64 0,.int .i64 0,.string ⟨#[]⟩,.slice none 0 0,.slice none 0 0]) (by simp[results,Tryz.results54,go_sem]) rfl ?_
  exact HP.out _
theorem l1_yes (n m R:Nat) (s:ByteArray) (i:Nat) (w:World) (h:RdS w R s i false) (hs:s.size<=10000) (hi:i<=s.size) (hl:lookB s i=121) :
  Calls Tryz.prog 54 #[.pointer (some ⟨R,0,none⟩),.int .i64 (7 - ((n+1:Nat):Int))] w (qbB (m+1) (n+1) w R s i false):=by
 have hR:=h.lt
 obtain⟨W1,aC⟩:∃ W1,W1=w.alloc (.cells #[.int .i64 0,.int .i64 0,.string ⟨#[]⟩,.slice none 0 0,.slice none 0 0] 67):=⟨_,rfl⟩
 have aL:W1.heap.size=w.heap.size+1:=by rw[aC];simp
 have aF:Below w.heap.size w W1:=by rw[aC];exact (Below.refl _ _).alloc (Nat.le_refl _) _
 have aB:W1.heap[w.heap.size]?=some (.cells #[.int .i64 0,.int .i64 0,.string ⟨#[]⟩,.slice none 0 0,.slice none 0 0] 67 (0,0)):=by rw[aC];exact heap_alloc_new _ _
 have aE:RdS W1 R s i false:=(aF.block R hR).trans h
 have c2:=aE.cell2
 rw[aC]at c2
 have aH:¬ (6:Int)<7 - ((n+1:Nat):Int):=by omega
 have HL:Hid (Calls Tryz.prog 56 #[.pointer (some ⟨R,0,none⟩)] W1 fun e w'=>e=.returned (.int .u8 (((lookB s i).toNat:Nat):Int))/\Near R w w' /\ RdS w' R s i false/\w'.heap.size=w.heap.size+1/\w'.heap[w.heap.size]?=some (.cells #[.int .i64 0,.int .i64 0,.string ⟨#[]⟩,.slice none 0 0,.slice none 0 0] 67 (0,0))):=
  (qbL W1 R s i false aE).mono fun e w' ⟨he,k,hk⟩=>by
   subst hk
   exact⟨he,((Near.of_below aF).trans (Near.refl R W1)).drewN k,aE.drewN k,aL,aB⟩
 have aI:Hid (lookB s i=121):=hl
 have hc:((lookB s i).toNat:Nat)=121:=by rw[hl];rfl
 rw[hc]at HL
 clear aE aB aF h hl hc
 generalize hdp:7 - ((n+1:Nat):Int)=dp at *
 clear hdp
 go_enter Tryz.func54,Tryz.ntmps54
 go_wp2_with fail
 rw[<- aC]
 clear aC c2
 refine HL.out.mono ?_
 rintro e w2 ⟨rfl,aG,aJ,aN,aA⟩
 have HE:Hid (Calls Tryz.prog 57 #[.pointer (some ⟨R,0,none⟩),.string ⟨#[121,101,115]⟩] w2 _):=qcK w2 R s ⟨#[121,101,115]⟩ i false aJ hs (by decide) hi
 clear HL aJ
 go_wp2_with fail
 refine HE.out.mono ?_
 rintro e w3 ⟨rfl,aD,aK⟩
 have aM:=aD.size
 obtain⟨⟨r0,r1,r2,r3,r4⟩,f0,f1,f2,f3,f4⟩:=qbI ((aD.block w.heap.size (by omega) (by omega)).trans aA)
 have HP:Hid (qbB (m+1) (n+1) w R s i false (.returned (.agg #[.int .i64 3,.int .i64 1,.string ⟨#[]⟩,.slice none 0 0,.slice none 0 0])) (put5 w3 w.heap.size 0 (.int .i64 3) (.int .i64 1) (.string ⟨#[]⟩) (.slice none 0 0) (.slice none 0 0))):=by
  rcases aK with ⟨q1,q2,q3⟩|⟨q1,q3⟩
  ·exact qfF (aG.trans aD) hR q3 (qdY _ _ m 3 1 _ rfl rfl (by decide)) (qhJ (x:=⟨#[121,101,115]⟩) hi (.inl ⟨q1,q2,rfl,rfl⟩) (by decide) (fun t0 post he hg=>xaV aI.out t0 post he hg))
  ·exact qfF (aG.trans aD) hR q3 (qdY _ _ m 3 1 _ rfl rfl (by decide)) (qhJ (x:=⟨#[121,101,115]⟩) hi (.inr ⟨q1,rfl,rfl⟩) (by decide) (fun t0 post he hg=>xaV aI.out t0 post he hg))
 clear HE aK aD aG aA
 go_wp2_with fail
 refine bodyPost_ret (v:=.agg #[.int .i64 3,.int .i64 1,.string ⟨#[]⟩,.slice none 0 0,.slice none 0 0]) (by simp[results,Tryz.results54,go_sem,r0,r1,r2,r3,r4]) rfl ?_
 exact HP.out
theorem l1_no (n m R:Nat) (s:ByteArray) (i:Nat) (w:World) (h:RdS w R s i false) (hs:s.size<=10000) (hi:i<=s.size) (hl:lookB s i=110) :
  Calls Tryz.prog 54 #[.pointer (some ⟨R,0,none⟩),.int .i64 (7 - ((n+1:Nat):Int))] w (qbB (m+1) (n+1) w R s i false):=by
 have hR:=h.lt
 obtain⟨W1,aC⟩:∃ W1,W1=w.alloc (.cells #[.int .i64 0,.int .i64 0,.string ⟨#[]⟩,.slice none 0 0,.slice none 0 0] 67):=⟨_,rfl⟩
 have aL:W1.heap.size=w.heap.size+1:=by rw[aC];simp
 have aF:Below w.heap.size w W1:=by rw[aC];exact (Below.refl _ _).alloc (Nat.le_refl _) _
 have aB:W1.heap[w.heap.size]?=some (.cells #[.int .i64 0,.int .i64 0,.string ⟨#[]⟩,.slice none 0 0,.slice none 0 0] 67 (0,0)):=by rw[aC];exact heap_alloc_new _ _
 have aE:RdS W1 R s i false:=(aF.block R hR).trans h
 have c2:=aE.cell2
 rw[aC]at c2
 have aH:¬ (6:Int)<7 - ((n+1:Nat):Int):=by omega
 have HL:Hid (Calls Tryz.prog 56 #[.pointer (some ⟨R,0,none⟩)] W1 fun e w'=>e=.returned (.int .u8 (((lookB s i).toNat:Nat):Int))/\Near R w w' /\ RdS w' R s i false/\w'.heap.size=w.heap.size+1/\w'.heap[w.heap.size]?=some (.cells #[.int .i64 0,.int .i64 0,.string ⟨#[]⟩,.slice none 0 0,.slice none 0 0] 67 (0,0))):=
  (qbL W1 R s i false aE).mono fun e w' ⟨he,k,hk⟩=>by
   subst hk
   exact⟨he,((Near.of_below aF).trans (Near.refl R W1)).drewN k,aE.drewN k,aL,aB⟩
 have aI:Hid (lookB s i=110):=hl
 have hc:((lookB s i).toNat:Nat)=110:=by rw[hl];rfl
 rw[hc]at HL
 clear aE aB aF h hl hc
 generalize hdp:7 - ((n+1:Nat):Int)=dp at *
 clear hdp
 go_enter Tryz.func54,Tryz.ntmps54
 go_wp2_with fail
 rw[<- aC]
 clear aC c2
 refine HL.out.mono ?_
 rintro e w2 ⟨rfl,aG,aJ,aN,aA⟩
 have HE:Hid (Calls Tryz.prog 57 #[.pointer (some ⟨R,0,none⟩),.string ⟨#[110,111]⟩] w2 _):=qcK w2 R s ⟨#[110,111]⟩ i false aJ hs (by decide) hi
 clear HL aJ
 go_wp2_with fail
 refine HE.out.mono ?_
 rintro e w3 ⟨rfl,aD,aK⟩
 have aM:=aD.size
 obtain⟨⟨r0,r1,r2,r3,r4⟩,f0,f1,f2,f3,f4⟩:=qbI ((aD.block w.heap.size (by omega) (by omega)).trans aA)
 have HP:Hid (qbB (m+1) (n+1) w R s i false (.returned (.agg #[.int .i64 3,.int .i64 0,.string ⟨#[]⟩,.slice none 0 0,.slice none 0 0])) (put5 w3 w.heap.size 0 (.int .i64 3) (.int .i64 0) (.string ⟨#[]⟩) (.slice none 0 0) (.slice none 0 0))):=by
  rcases aK with ⟨q1,q2,q3⟩|⟨q1,q3⟩
  ·exact qfF (aG.trans aD) hR q3 (qdY _ _ m 3 0 _ rfl rfl (by decide)) (qhJ (x:=⟨#[110,111]⟩) hi (.inl ⟨q1,q2,rfl,rfl⟩) (by decide) (fun t0 post he hg=>xhW aI.out t0 post he hg))
  ·exact qfF (aG.trans aD) hR q3 (qdY _ _ m 3 0 _ rfl rfl (by decide)) (qhJ (x:=⟨#[110,111]⟩) hi (.inr ⟨q1,rfl,rfl⟩) (by decide) (fun t0 post he hg=>xhW aI.out t0 post he hg))
 clear HE aK aD aG aA
 go_wp2_with fail
 refine bodyPost_ret (v:=.agg #[.int .i64 3,.int .i64 0,.string ⟨#[]⟩,.slice none 0 0,.slice none 0 0]) (by simp[results,Tryz.results54,go_sem,r0,r1,r2,r3,r4]) rfl ?_
 exact HP.out
theorem xiO (n m R:Nat) (s:ByteArray) (i:Nat) (w:World) (h:RdS w R s i false) (hs:s.size<=10000) (hi:i<=s.size) (hl:lookB s i=126) :
  Calls Tryz.prog 54 #[.pointer (some ⟨R,0,none⟩),.int .i64 (7 - ((n+1:Nat):Int))] w (qbB (m+1) (n+1) w R s i false):=by
 have hR:=h.lt
 obtain⟨W1,aC⟩:∃ W1,W1=w.alloc (.cells #[.int .i64 0,.int .i64 0,.string ⟨#[]⟩,.slice none 0 0,.slice none 0 0] 67):=⟨_,rfl⟩
 have aL:W1.heap.size=w.heap.size+1:=by rw[aC];simp
 have aF:Below w.heap.size w W1:=by rw[aC];exact (Below.refl _ _).alloc (Nat.le_refl _) _
 have aB:W1.heap[w.heap.size]?=some (.cells #[.int .i64 0,.int .i64 0,.string ⟨#[]⟩,.slice none 0 0,.slice none 0 0] 67 (0,0)):=by rw[aC];exact heap_alloc_new _ _
 have aE:RdS W1 R s i false:=(aF.block R hR).trans h
 have c2:=aE.cell2
 rw[aC]at c2
 have aH:¬ (6:Int)<7 - ((n+1:Nat):Int):=by omega
 have HL:Hid (Calls Tryz.prog 56 #[.pointer (some ⟨R,0,none⟩)] W1 fun e w'=>e=.returned (.int .u8 (((lookB s i).toNat:Nat):Int))/\Near R w w' /\ RdS w' R s i false/\w'.heap.size=w.heap.size+1/\w'.heap[w.heap.size]?=some (.cells #[.int .i64 0,.int .i64 0,.string ⟨#[]⟩,.slice none 0 0,.slice none 0 0] 67 (0,0))):=
  (qbL W1 R s i false aE).mono fun e w' ⟨he,k,hk⟩=>by
   subst hk
   exact⟨he,((Near.of_below aF).trans (Near.refl R W1)).drewN k,aE.drewN k,aL,aB⟩
 have aI:Hid (lookB s i=126):=hl
 have hc:((lookB s i).toNat:Nat)=126:=by rw[hl];rfl
 rw[hc]at HL
 clear aE aB aF h hl hc
 generalize hdp:7 - ((n+1:Nat):Int)=dp at *
 clear hdp
 go_enter Tryz.func54,Tryz.ntmps54
 go_wp2_with fail
 rw[<- aC]
 clear aC c2
 refine HL.out.mono ?_
 rintro e w2 ⟨rfl,aG,aJ,aN,aA⟩
 have HE:Hid (Calls Tryz.prog 57 #[.pointer (some ⟨R,0,none⟩),.string ⟨#[126]⟩] w2 _):=qcK w2 R s ⟨#[126]⟩ i false aJ hs (by decide) hi
 clear HL aJ
 go_wp2_with fail
 refine HE.out.mono ?_
 rintro e w3 ⟨rfl,aD,aK⟩
 have aM:=aD.size
 obtain⟨⟨r0,r1,r2,r3,r4⟩,f0,f1,f2,f3,f4⟩:=qbI ((aD.block w.heap.size (by omega) (by omega)).trans aA)
 have HP:Hid (qbB (m+1) (n+1) w R s i false (.returned (.agg #[.int .i64 6,.int .i64 0,.string ⟨#[]⟩,.slice none 0 0,.slice none 0 0])) (put5 w3 w.heap.size 0 (.int .i64 6) (.int .i64 0) (.string ⟨#[]⟩) (.slice none 0 0) (.slice none 0 0))):=by
  rcases aK with ⟨q1,q2,q3⟩|⟨q1,q3⟩
  ·exact qfF (aG.trans aD) hR q3 (qdY _ _ m 6 0 _ rfl rfl (by decide)) (qhJ (x:=⟨#[126]⟩) hi (.inl ⟨q1,q2,rfl,rfl⟩) (by decide) (fun t0 post he hg=>qwF aI.out t0 post he hg))
  ·exact qfF (aG.trans aD) hR q3 (qdY _ _ m 6 0 _ rfl rfl (by decide)) (qhJ (x:=⟨#[126]⟩) hi (.inr ⟨q1,rfl,rfl⟩) (by decide) (fun t0 post he hg=>qwF aI.out t0 post he hg))
 clear HE aK aD aG aA
 go_wp2_with fail
 refine bodyPost_ret (v:=.agg #[.int .i64 6,.int .i64 0,.string ⟨#[]⟩,.slice none 0 0,.slice none 0 0]) (by simp[results,Tryz.results54,go_sem,r0,r1,r2,r3,r4]) rfl ?_
 exact HP.out
theorem xiP (n m R:Nat) (s:ByteArray) (i:Nat) (w:World) (h:RdS w R s i false) (hs:s.size<=10000) (hi:i<=s.size) (hl:lookB s i=34) :
  Calls Tryz.prog 54 #[.pointer (some ⟨R,0,none⟩),.int .i64 (7 - ((n+1:Nat):Int))] w (qbB (m+1) (n+1) w R s i false):=by
 have hR:=h.lt
 obtain⟨W1,aC⟩:∃ W1,W1=w.alloc (.cells #[.int .i64 0,.int .i64 0,.string ⟨#[]⟩,.slice none 0 0,.slice none 0 0] 67):=⟨_,rfl⟩
 have aO:W1.heap.size=w.heap.size+1:=by rw[aC];simp
 have aG:Below w.heap.size w W1:=by rw[aC];exact (Below.refl _ _).alloc (Nat.le_refl _) _
 have aB:W1.heap[w.heap.size]?=some (.cells #[.int .i64 0,.int .i64 0,.string ⟨#[]⟩,.slice none 0 0,.slice none 0 0] 67 (0,0)):=by rw[aC];exact heap_alloc_new _ _
 have aE:RdS W1 R s i false:=(aG.block R hR).trans h
 have c2:=aE.cell2
 rw[aC]at c2
 have aH:¬ (6:Int)<7 - ((n+1:Nat):Int):=by omega
 have HL:Hid (Calls Tryz.prog 56 #[.pointer (some ⟨R,0,none⟩)] W1 fun e w'=>e=.returned (.int .u8 (((lookB s i).toNat:Nat):Int))/\Near R w w' /\ RdS w' R s i false/\w'.heap.size=w.heap.size+1/\w'.heap[w.heap.size]?=some (.cells #[.int .i64 0,.int .i64 0,.string ⟨#[]⟩,.slice none 0 0,.slice none 0 0] 67 (0,0))):=
  (qbL W1 R s i false aE).mono fun e w' ⟨he,k,hk⟩=>by
   subst hk
   exact⟨he,((Near.of_below aG).trans (Near.refl R W1)).drewN k,aE.drewN k,aO,aB⟩
 have aI:Hid (lookB s i=34):=hl
 have hc:((lookB s i).toNat:Nat)=34:=by rw[hl];rfl
 rw[hc]at HL
 have aD:i<s.size:=Classical.byContradiction fun hge=>by rw[qbW s i (by omega)]at hl;exact absurd hl (by decide)
 have aJ:s[i]=34:=by rw[<- qeU s i aD];exact hl
 clear aE aB aG h hl hc
 generalize hdp:7 - ((n+1:Nat):Int)=dp at *
 clear hdp
 go_enter Tryz.func54,Tryz.ntmps54
 go_wp2_with fail
 rw[<- aC]
 clear aC c2
 refine HL.out.mono ?_
 rintro e w2 ⟨rfl,aK,aL,aQ,aA⟩
 have HT:Hid (Calls Tryz.prog 71 #[.pointer (some ⟨R,0,none⟩)] w2 (qvZ w2 R s i false)):=xfR w2 R s i false aL hs aD aJ
 clear HL aL aJ
 go_wp2_with fail
 refine HT.out.mono ?_
 rintro e w3 ⟨aF,aM⟩
 obtain⟨x,i',bad',rfl,hx,aN,hG⟩:∃ (x:ByteArray) (i':Nat) (bad':Bool),e=.returned (.string x)/\x.size<=10000/\RdS w3 R s i' bad' /\ GotT (m+1) (n+1) s i false (⟨2,0,x,[],[]⟩:Nd (T m)) i' bad':=by
  rcases aM with ⟨x,r,q1,rfl,q3,q4⟩|⟨q1,x,q2,rfl,q3⟩
  ·exact⟨bs x,_,false,rfl,by rw[qaJ];omega,q3,qxO aI.out q1 q4⟩
  ·exact⟨x,s.size,true,rfl,q2,q3,qxP aI.out hi q1⟩
 have aP:=aF.size
 obtain⟨⟨r0,r1,r2,r3,r4⟩,f0,f1,f2,f3,f4⟩:=qbI ((aF.block w.heap.size (by omega) (by omega)).trans aA)
 have HP:Hid (qbB (m+1) (n+1) w R s i false (.returned (.agg #[.int .i64 2,.int .i64 0,.string x,.slice none 0 0,.slice none 0 0])) (put5 w3 w.heap.size 0 (.int .i64 2) (.int .i64 0) (.string x) (.slice none 0 0) (.slice none 0 0))):=
  qfF (aK.trans aF) hR aN (qdY _ _ m 2 0 _ rfl rfl hx) hG
 clear HT aM aF aK aA aN hG
 go_wp2_with fail
 refine bodyPost_ret (v:=.agg #[.int .i64 2,.int .i64 0,.string x,.slice none 0 0,.slice none 0 0]) (by simp[results,Tryz.results54,go_sem,r0,r1,r2,r3,r4]) rfl ?_
 exact HP.out
theorem l1_num (n m R:Nat) (s:ByteArray) (i:Nat) (w:World) (h:RdS w R s i false) (hs:s.size<=10000) (hi:i<=s.size) (h1n:¬ lookB s i=34) (h2n:¬ lookB s i=121) (h3n:¬ lookB s i=110) (h4n:¬ lookB s i=126) (h5n:¬ lookB s i=63) (h6n:¬ lookB s i=91) (h7n:¬ lookB s i=123) :
  Calls Tryz.prog 54 #[.pointer (some ⟨R,0,none⟩),.int .i64 (7 - ((n+1:Nat):Int))] w (qbB (m+1) (n+1) w R s i false):=by
 have hR:=h.lt
 obtain⟨W1,aD⟩:∃ W1,W1=w.alloc (.cells #[.int .i64 0,.int .i64 0,.string ⟨#[]⟩,.slice none 0 0,.slice none 0 0] 67):=⟨_,rfl⟩
 have aR:W1.heap.size=w.heap.size+1:=by rw[aD];simp
 have aI:Below w.heap.size w W1:=by rw[aD];exact (Below.refl _ _).alloc (Nat.le_refl _) _
 have aC:W1.heap[w.heap.size]?=some (.cells #[.int .i64 0,.int .i64 0,.string ⟨#[]⟩,.slice none 0 0,.slice none 0 0] 67 (0,0)):=by rw[aD];exact heap_alloc_new _ _
 have aG:RdS W1 R s i false:=(aI.block R hR).trans h
 have c2:=aG.cell2
 rw[aD]at c2
 have aM:¬ (6:Int)<7 - ((n+1:Nat):Int):=by omega
 have HL:Hid (Calls Tryz.prog 56 #[.pointer (some ⟨R,0,none⟩)] W1 fun e w'=>e=.returned (.int .u8 (((lookB s i).toNat:Nat):Int))/\Near R w w' /\ RdS w' R s i false/\w'.heap.size=w.heap.size+1/\w'.heap[w.heap.size]?=some (.cells #[.int .i64 0,.int .i64 0,.string ⟨#[]⟩,.slice none 0 0,.slice none 0 0] 67 (0,0))):=
  (qbL W1 R s i false aG).mono fun e w' ⟨he,k,hk⟩=>by
   subst hk
   exact⟨he,((Near.of_below aI).trans (Near.refl R W1)).drewN k,aG.drewN k,aR,aC⟩
 have aA:∀ c:UInt8,¬ lookB s i=c->((((lookB s i).toNat:Nat):Int)==(c.toNat:Int))=false:=fun c hc=>by
  rw[beq_eq_false_iff_ne]
  intro e
  apply hc
  apply UInt8.toNat_inj.1
  omega
 have e1:((((lookB s i).toNat:Nat):Int)==34)=false:=aA 34 h1n
 have e2:((((lookB s i).toNat:Nat):Int)==121)=false:=aA 121 h2n
 have e3:((((lookB s i).toNat:Nat):Int)==110)=false:=aA 110 h3n
 have e4:((((lookB s i).toNat:Nat):Int)==126)=false:=aA 126 h4n
 have e5:((((lookB s i).toNat:Nat):Int)==63)=false:=aA 63 h5n
 have e6:((((lookB s i).toNat:Nat):Int)==91)=false:=aA 91 h6n
 have e7:((((lookB s i).toNat:Nat):Int)==123)=false:=aA 123 h7n
 have aU:Hid (¬ lookB s i=34/\¬ lookB s i=121/\¬ lookB s i=110/\¬ lookB s i=126/\¬ lookB s i=63/\¬ lookB s i=91/\¬ lookB s i=123):=⟨h1n,h2n,h3n,h4n,h5n,h6n,h7n⟩
 have aN:Hid (∀ w2,RdS w2 R s i false->Calls Tryz.prog 73 #[.pointer (some ⟨R,0,none⟩)] w2 fun e w'=>Near R w2 w' /\ ∃ (v:Int) (i':Nat) (bad':Bool),e=.returned (.int .i64 v)/\(Lit.int .i64 v).wf=true/\RdS w' R s i' bad' /\ GotT (m+1) (n+1) s i false (⟨1,v,ByteArray.empty,[],[]⟩:Nd (T m)) i' bad'):=by
  intro w2 aE
  have fin:∀ (neg:Bool) (F:Nat),neg=decide (lookB s i=45)->F=(if neg=true then i+1 else i)->∀ e w',quD w2 R s false neg F e w'->(Near R w2 w' /\ ∃ (v:Int) (i':Nat) (bad':Bool),e=.returned (.int .i64 v)/\(Lit.int .i64 v).wf=true/\RdS w' R s i' bad' /\ GotT (m+1) (n+1) s i false (⟨1,v,ByteArray.empty,[],[]⟩:Nd (T m)) i' bad'):=by
   rintro neg F aK hF e w' ⟨hn,k,hk,aT,aF,aL,rfl,hr⟩
   have aS:=qhZ _ aF (by rw[List.length_take];omega)
   refine⟨hn,_,F+k,_,rfl,?_,hr,xfT h1n h2n h3n h4n h5n h6n h7n aK hF aT aF aL rfl⟩
   generalize qcE ((s.data.toList.drop F).take k)=u at aS
   refine wfT _ ?_ ?_ <;> (cases neg <;> simp <;> omega)
  by_cases h45:lookB s i=45
  ·have aJ:i<s.size:=Classical.byContradiction fun hge=>by rw[qbW s i (by omega)]at h45;exact absurd h45 (by decide)
   exact (xiG w2 R s i false aE hs aJ h45).mono (fin true (i+1) (by simp[h45]) rfl)
  ·exact (xiH w2 R s i false aE hs hi h45).mono (fin false i (by simp[h45]) rfl)
 clear aA h1n h2n h3n h4n h5n h6n h7n
 generalize ((lookB s i).toNat:Nat)=cc at *
 clear aG aC aI h
 generalize hdp:7 - ((n+1:Nat):Int)=dp at *
 clear hdp
 go_enter Tryz.func54,Tryz.ntmps54
 go_wp2_with fail
 rw[<- aD]
 clear aD c2
 refine HL.out.mono ?_
 rintro e w2 ⟨rfl,aO,aE,aW,aB⟩
 have HT:Hid (Calls Tryz.prog 73 #[.pointer (some ⟨R,0,none⟩)] w2 _):=aN.out w2 aE
 clear HL aE aN
 go_wp2_with fail
 refine HT.out.mono ?_
 rintro e w3 ⟨aH,v,i',bad',rfl,aP,aQ,hG⟩
 have aV:=aH.size
 obtain⟨⟨r0,r1,r2,r3,r4⟩,f0,f1,f2,f3,f4⟩:=qbI ((aH.block w.heap.size (by omega) (by omega)).trans aB)
 have HP:Hid (qbB (m+1) (n+1) w R s i false (.returned (.agg #[.int .i64 1,.int .i64 v,.string ⟨#[]⟩,.slice none 0 0,.slice none 0 0])) (put5 w3 w.heap.size 0 (.int .i64 1) (.int .i64 v) (.string ⟨#[]⟩) (.slice none 0 0) (.slice none 0 0))):=
  qfF (aO.trans aH) hR aQ (qdY _ _ m 1 v _ rfl aP (by decide)) hG
 clear HT aH aO aB aQ hG e1 e2 e3 e4 e5 e6 e7 aP
 go_wp2_with fail
 refine bodyPost_ret (v:=.agg #[.int .i64 1,.int .i64 v,.string ⟨#[]⟩,.slice none 0 0,.slice none 0 0]) (by simp[results,Tryz.results54,go_sem,r0,r1,r2,r3,r4]) rfl ?_
 exact HP.out
end Go.Proofs.YtelogmjfekhmpaaGreatDoor
