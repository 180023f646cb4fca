import Derived.Test.YtelogmjfekhmpaaGreatDoorTRd1
import Derived.Test.YtelogmjfekhmpaaGreatDoorTRdF
import Derived.Test.YtelogmjfekhmpaaGreatDoorBox
namespace Go.Proofs.YtelogmjfekhmpaaGreatDoor
set_option maxRecDepth 100000
set_option maxHeartbeats 16000000
open Go.RowKit
theorem xiQ {S:Nat->Prop} {w:World} {m:Nat} {x:Int} {t:T m} {b c:Nat} {c0 c1 c2 c3 c4:Value} (hx:(Lit.int .i64 x).wf=true) (hb:S b) (h:Box5 w b c0 c1 c2 c3 c4) (ht:TreeIn S w m t c0 c1 c2 c3 c4) :
  TreeIn S w (m+1) (⟨x,0,ByteArray.empty,[],[t]⟩:Nd (T m)) (.int .i64 x) (.int .i64 0) (.string ⟨#[]⟩) (.slice none 0 0) (.slice (some ⟨b,0,none⟩) 1 c):=by
 refine⟨rfl,rfl,rfl,by show ByteArray.empty.size<=_;unfold maxLen;decide,hx,by rfl,⟨none,0,rfl,by simp[maxLen],fun s h=>(by cases h),fun h=>absurd rfl h⟩,⟨some ⟨b,0,none⟩,c,rfl,by simp[maxLen],fun _=>⟨b,0,rfl,hb,fun i hi=>?_⟩⟩⟩
 have:i=0:=by simpa using hi
 subst this
 exact⟨c0,c1,c2,c3,c4,by simpa using h.c0,by simpa using h.c1,by simpa using h.c2,by simpa using h.c3,by simpa using h.c4,ht⟩
theorem xiR (n:Nat) (hn:qeI n) (m R:Nat) (s:ByteArray) (i:Nat) (w:World) (hm:n+1<=m) (hn6:n<=5) (h:RdS w R s i false) (hs:s.size<=10000) (hi:i<=s.size) (hl:lookB s i=63) :
  Calls Tryz.prog 54 #[.pointer (some ⟨R,0,none⟩),.int .i64 (7 - ((n+1:Nat):Int))] w (qbB (m+1) (n+1) w R s i false):=by
 have hR:=h.lt
 obtain⟨W1,aF⟩:∃ W1,W1=w.alloc (.cells #[.int .i64 0,.int .i64 0,.string ⟨#[]⟩,.slice none 0 0,.slice none 0 0] 67):=⟨_,rfl⟩
 have aT:W1.heap.size=w.heap.size+1:=by rw[aF];simp
 have aL:Below w.heap.size w W1:=by rw[aF];exact (Below.refl _ _).alloc (Nat.le_refl _) _
 have aE:W1.heap[w.heap.size]?=some (.cells #[.int .i64 0,.int .i64 0,.string ⟨#[]⟩,.slice none 0 0,.slice none 0 0] 67 (0,0)):=by rw[aF];exact heap_alloc_new _ _
 have aI:RdS W1 R s i false:=(aL.block R hR).trans h
 have c2:=aI.cell2
 rw[aF]at c2
 have aP:¬ (6:Int)<7 - ((n+1:Nat):Int):=by omega
 have HL:Hid (Calls Tryz.prog 56 #[.pointer (some ⟨R,0,none⟩)] W1 fun e w'=>e=.returned (.int .u8 (((lookB s i).toNat:Nat):Int))/\Near R w w' /\ RdS w' R s i false/\w'.heap.size=w.heap.size+1/\w'.heap[w.heap.size]?=some (.cells #[.int .i64 0,.int .i64 0,.string ⟨#[]⟩,.slice none 0 0,.slice none 0 0] 67 (0,0))):=
  (qbL W1 R s i false aI).mono fun e w' ⟨he,k,hk⟩=>by
   subst hk
   exact⟨he,((Near.of_below aL).trans (Near.refl R W1)).drewN k,aI.drewN k,aT,aE⟩
 have aU:Hid (lookB s i=63):=hl
 have hc:((lookB s i).toNat:Nat)=63:=by rw[hl];rfl
 rw[hc]at HL
 have aM:Hid (eatP [63] (s.data.toList.drop i)=some (s.data.toList.drop (i+1))/\i<s.size):=by
  have aD:i<s.size:=Classical.byContradiction fun hge=>by rw[qbW s i (by omega)]at hl;exact absurd hl (by decide)
  refine⟨?_,aD⟩
  have aV:s[i]=63:=by rw[<- qeU s i aD];exact hl
  rw[qjX s i aD,aV];exact qaE _ _
 have aW:IntKind.i64.wrap (7 - ((n+1:Nat):Int)+1)=7 - (n:Int):=by rw[IntKind.wrap_i64];omega
 have HN:Hid (qeI n):=hn
 clear hn
 clear aI aE aL h hl hc
 generalize hdp:7 - ((n+1:Nat):Int)=dp at *
 clear hdp
 go_enter Tryz.func54,Tryz.ntmps54
 go_wp2_with fail
 rw[<- aF]
 clear aF c2
 refine HL.out.mono ?_
 rintro e w2 ⟨rfl,aR,aS,aZ,aC⟩
 have HE:Hid (Calls Tryz.prog 57 #[.pointer (some ⟨R,0,none⟩),.string ⟨#[63]⟩] w2 _):=qcK w2 R s ⟨#[63]⟩ i false aS hs (by decide) hi
 clear HL aS
 go_wp2_with fail
 refine HE.out.mono ?_
 rintro e w3 ⟨rfl,aJ,⟨q1,q2,q3⟩|⟨q1,q3⟩⟩
 case inr=>
  have q1:eatP [63] (s.data.toList.drop i)=none:=q1
  rw[aM.out.1]at q1
  cases q1
 have q3:RdS w3 R s ((i+1:Nat):Int) false:=q3
 have aX:=aJ.size
 have aA:=(aJ.block w.heap.size (by omega) (by omega)).trans aC
 have aG:=aR.trans aJ
 have aD:=aM.out.2
 have HK:Hid (Calls Tryz.prog 54 #[.pointer (some ⟨R,0,none⟩),.int .i64 (7 - (n:Int))] w3 (qbB m n w3 R s (i+1) false)):=HN.out m R s (i+1) false w3 hm q3 hs (fun _=>by omega) (by omega)
 clear HE aR aJ aC q1 q2 q3 HN aM
 go_wp2_with fail
 refine HK.out.mono ?_
 rintro e w4 ⟨aK,t,d0,d1,d2,d3,d4,i1,bad1,rfl,ht,aO,hG⟩
 obtain⟨u0,u1,u2,ua,ul,uc,ya,yl,yc,rfl,rfl,rfl,rfl,rfl⟩:=ht.shape
 have aY:=aK.size
 have aB:=(aK.block w.heap.size (by omega) (by omega)).trans aA
 have aH:=aG.trans aK
 clear HK aA aG
 obtain⟨o,ho⟩:∃ o:Obj,o=.cells #[.int .i64 u0,.int .i64 u1,.string u2,.slice ua ul uc,.slice ya yl yc] 67:=⟨_,rfl⟩
 have aN:=Box5.new w4 (.int .i64 u0) (.int .i64 u1) (.string u2) (.slice ua ul uc) (.slice ya yl yc) 67
 rw[<- ho]at aN
 have aQ:Near R w (w4.alloc o):=aH.trans (Near.alloc _ _ _)
 obtain⟨⟨r0,r1,r2,r3,r4⟩,f0,f1,f2,f3,f4⟩:=qbI ((Below.heap_alloc w4 o w.heap.size (by omega)).trans aB)
 have HP:Hid (qbB (m+1) (n+1) w R s i false (.returned (.agg #[.int .i64 6,.int .i64 0,.string ⟨#[]⟩,.slice none 0 0,.slice (some ⟨w4.heap.size,0,none⟩) 1 1])) (put5 (w4.alloc o) w.heap.size 0 (.int .i64 6) (.int .i64 0) (.string ⟨#[]⟩) (.slice none 0 0) (.slice (some ⟨w4.heap.size,0,none⟩) 1 1))):=by
  refine qfF aQ hR ((Below.heap_alloc _ _ _ (by have:=aO.lt;omega)).trans aO) (xiQ (t:=t) rfl ⟨by omega,by simp⟩ aN ?_) (xfS aU.out hG)
  exact ht.keep (fun b hb=>Below.heap_alloc _ _ _ hb.2) (fun b hb=>⟨by omega,by simp;omega⟩)
 subst ho
 clear aO hG ht aN aQ aB aH aK
 go_wp2_with fail
 refine bodyPost_ret (v:=.agg #[.int .i64 6,.int .i64 0,.string ⟨#[]⟩,.slice none 0 0,.slice (some ⟨w4.heap.size,0,none⟩) 1 1]) (by simp[results,Tryz.results54,go_sem,r0,r1,r2,r3,r4]) rfl ?_
 exact HP.out
theorem xiS (n:Nat) (hn:qeI n) (m R:Nat) (s:ByteArray) (i:Nat) (w:World) (hm:n+1<=m) (hn6:n<=5) (h:RdS w R s i false) (hs:s.size<=10000) (hi:i<=s.size) (hl:lookB s i=91) :
  Calls Tryz.prog 54 #[.pointer (some ⟨R,0,none⟩),.int .i64 (7 - ((n+1:Nat):Int))] w (qbB (m+1) (n+1) w R s i false):=by
 have hR:=h.lt
 obtain⟨W1,aC⟩:∃ W1,W1=w.alloc (.cells #[.int .i64 0,.int .i64 0,.string ⟨#[]⟩,.slice none 0 0,.slice none 0 0] 67):=⟨_,rfl⟩
 have aL:W1.heap.size=w.heap.size+1:=by rw[aC];simp
 have aG:Below w.heap.size w W1:=by rw[aC];exact (Below.refl _ _).alloc (Nat.le_refl _) _
 have aB:W1.heap[w.heap.size]?=some (.cells #[.int .i64 0,.int .i64 0,.string ⟨#[]⟩,.slice none 0 0,.slice none 0 0] 67 (0,0)):=by rw[aC];exact heap_alloc_new _ _
 have aE:RdS W1 R s i false:=(aG.block R hR).trans h
 have c2:=aE.cell2
 rw[aC]at c2
 have aD:¬ (6:Int)<7 - ((n+1:Nat):Int):=by omega
 have HL:Hid (Calls Tryz.prog 56 #[.pointer (some ⟨R,0,none⟩)] W1 fun e w'=>e=.returned (.int .u8 (((lookB s i).toNat:Nat):Int))/\Near R w w' /\ RdS w' R s i false/\w'.heap.size=w.heap.size+1/\w'.heap[w.heap.size]?=some (.cells #[.int .i64 0,.int .i64 0,.string ⟨#[]⟩,.slice none 0 0,.slice none 0 0] 67 (0,0))):=
  (qbL W1 R s i false aE).mono fun e w' ⟨he,k,hk⟩=>by
   subst hk
   exact⟨he,((Near.of_below aG).trans (Near.refl R W1)).drewN k,aE.drewN k,aL,aB⟩
 have aM:Hid (lookB s i=91):=hl
 have hc:((lookB s i).toNat:Nat)=91:=by rw[hl];rfl
 rw[hc]at HL
 have aH:i<s.size:=Classical.byContradiction fun hge=>by rw[qbW s i (by omega)]at hl;exact absurd hl (by decide)
 have aN:7 - ((n+1:Nat):Int)=6 - (n:Int):=by omega
 rw[aN]at aD ⊢
 have HN:Hid (qeI n):=hn
 clear hn
 clear aE aB aG h hl hc
 go_enter Tryz.func54,Tryz.ntmps54
 go_wp2_with fail
 rw[<- aC]
 clear aC c2
 refine HL.out.mono ?_
 rintro e w2 ⟨rfl,aI,aJ,aP,aA⟩
 have HK:Hid (Calls Tryz.prog 72 #[.pointer (some ⟨R,0,none⟩),.int .i64 4,.int .u8 93,.int .i64 (6 - (n:Int))] w2 (qiQ m n w2 R s i)):=xaT n HN.out hn6 m R hm s i w2 aJ hs aH
 clear HL aJ HN
 go_wp2_with fail
 refine HK.out.mono ?_
 rintro e w3 ⟨aF,ks,nv,kv,i',bad',rfl,ht,aK,g1,g2,g3,g4⟩
 obtain⟨na,nc,rfl,-⟩:=ht.2.2.2.2.2.2.1
 obtain⟨ka,kc,rfl,-⟩:=ht.2.2.2.2.2.2.2
 have aO:=aF.size
 obtain⟨⟨r0,r1,r2,r3,r4⟩,f0,f1,f2,f3,f4⟩:=qbI ((aF.block w.heap.size (by omega) (by omega)).trans aA)
 have HP:Hid (qbB (m+1) (n+1) w R s i false (.returned (.agg #[.int .i64 4,.int .i64 0,.string ByteArray.empty,.slice na 0 nc,.slice ka ks.length kc])) (put5 w3 w.heap.size 0 (.int .i64 4) (.int .i64 0) (.string ByteArray.empty) (.slice na 0 nc) (.slice ka ks.length kc))):=
  qfF (aI.trans aF) hR aK (ht.keep (fun _ _=>rfl) (fun b hb=>⟨by omega,hb.2⟩)) (xaW aM.out g1 g2 g3 g4)
 clear HK aF aI aA aK ht g1 g2 g3 g4
 go_wp2_with fail
 refine bodyPost_ret (v:=.agg #[.int .i64 4,.int .i64 0,.string ByteArray.empty,.slice na 0 nc,.slice ka ks.length kc]) (by simp[results,Tryz.results54,go_sem,r0,r1,r2,r3,r4]) rfl ?_
 exact HP.out
theorem xiT (n:Nat) (hn:qeI n) (m R:Nat) (s:ByteArray) (i:Nat) (w:World) (hm:n+1<=m) (hn6:n<=5) (h:RdS w R s i false) (hs:s.size<=10000) (hi:i<=s.size) (hl:lookB s i=123) :
  Calls Tryz.prog 54 #[.pointer (some ⟨R,0,none⟩),.int .i64 (7 - ((n+1:Nat):Int))] w (qbB (m+1) (n+1) w R s i false):=by
 have hR:=h.lt
 obtain⟨W1,aC⟩:∃ W1,W1=w.alloc (.cells #[.int .i64 0,.int .i64 0,.string ⟨#[]⟩,.slice none 0 0,.slice none 0 0] 67):=⟨_,rfl⟩
 have aL:W1.heap.size=w.heap.size+1:=by rw[aC];simp
 have aG:Below w.heap.size w W1:=by rw[aC];exact (Below.refl _ _).alloc (Nat.le_refl _) _
 have aB:W1.heap[w.heap.size]?=some (.cells #[.int .i64 0,.int .i64 0,.string ⟨#[]⟩,.slice none 0 0,.slice none 0 0] 67 (0,0)):=by rw[aC];exact heap_alloc_new _ _
 have aE:RdS W1 R s i false:=(aG.block R hR).trans h
 have c2:=aE.cell2
 rw[aC]at c2
 have aD:¬ (6:Int)<7 - ((n+1:Nat):Int):=by omega
 have HL:Hid (Calls Tryz.prog 56 #[.pointer (some ⟨R,0,none⟩)] W1 fun e w'=>e=.returned (.int .u8 (((lookB s i).toNat:Nat):Int))/\Near R w w' /\ RdS w' R s i false/\w'.heap.size=w.heap.size+1/\w'.heap[w.heap.size]?=some (.cells #[.int .i64 0,.int .i64 0,.string ⟨#[]⟩,.slice none 0 0,.slice none 0 0] 67 (0,0))):=
  (qbL W1 R s i false aE).mono fun e w' ⟨he,k,hk⟩=>by
   subst hk
   exact⟨he,((Near.of_below aG).trans (Near.refl R W1)).drewN k,aE.drewN k,aL,aB⟩
 have aM:Hid (lookB s i=123):=hl
 have hc:((lookB s i).toNat:Nat)=123:=by rw[hl];rfl
 rw[hc]at HL
 have aH:i<s.size:=Classical.byContradiction fun hge=>by rw[qbW s i (by omega)]at hl;exact absurd hl (by decide)
 have aN:7 - ((n+1:Nat):Int)=6 - (n:Int):=by omega
 rw[aN]at aD ⊢
 have HN:Hid (qeI n):=hn
 clear hn
 clear aE aB aG h hl hc
 go_enter Tryz.func54,Tryz.ntmps54
 go_wp2_with fail
 rw[<- aC]
 clear aC c2
 refine HL.out.mono ?_
 rintro e w2 ⟨rfl,aI,aJ,aP,aA⟩
 have HK:Hid (Calls Tryz.prog 72 #[.pointer (some ⟨R,0,none⟩),.int .i64 5,.int .u8 125,.int .i64 (6 - (n:Int))] w2 (qlG m n w2 R s i)):=xbO n HN.out hn6 m R hm s i w2 aJ hs aH
 clear HL aJ HN
 go_wp2_with fail
 refine HK.out.mono ?_
 rintro e w3 ⟨aF,ns,ks,nv,kv,i',bad',rfl,ht,aK,g1,g2,g3,g4⟩
 obtain⟨na,nc,rfl,-⟩:=ht.2.2.2.2.2.2.1
 obtain⟨ka,kc,rfl,-⟩:=ht.2.2.2.2.2.2.2
 have aO:=aF.size
 obtain⟨⟨r0,r1,r2,r3,r4⟩,f0,f1,f2,f3,f4⟩:=qbI ((aF.block w.heap.size (by omega) (by omega)).trans aA)
 have HP:Hid (qbB (m+1) (n+1) w R s i false (.returned (.agg #[.int .i64 5,.int .i64 0,.string ByteArray.empty,.slice na ns.length nc,.slice ka ks.length kc])) (put5 w3 w.heap.size 0 (.int .i64 5) (.int .i64 0) (.string ByteArray.empty) (.slice na ns.length nc) (.slice ka ks.length kc))):=
  qfF (aI.trans aF) hR aK (ht.keep (fun _ _=>rfl) (fun b hb=>⟨by omega,hb.2⟩)) (xaX aM.out g1 g2 g3 g4)
 clear HK aF aI aA aK ht g1 g2 g3 g4
 go_wp2_with fail
 refine bodyPost_ret (v:=.agg #[.int .i64 5,.int .i64 0,.string ByteArray.empty,.slice na ns.length nc,.slice ka ks.length kc]) (by simp[results,Tryz.results54,go_sem,r0,r1,r2,r3,r4]) rfl ?_
 exact HP.out
theorem qxX:∀ n,n<=6->qeI n:=by
 intro n
 induction n with
 | zero=>
  intro _ m R s i bad w hm h hs hi _
  obtain⟨m',rfl⟩:∃ m',m=m'+1:=⟨m - 1,by omega⟩
  exact xbN 0 m' R s i bad w h (.inr rfl) hi
 | succ n ih=>
  intro aA m R s i bad w hm h hs hi aB
  obtain⟨m',rfl⟩:∃ m',m=m'+1:=⟨m - 1,by omega⟩
  have hn:=ih (by omega)
  cases bad with
  | true=>exact xbN (n+1) m' R s i true w h (.inl rfl) hi
  | false=>
   have hi:=hi rfl
   by_cases h1:lookB s i=34
   ·exact xiP n m' R s i w h hs hi h1
   by_cases h2:lookB s i=121
   ·exact l1_yes n m' R s i w h hs hi h2
   by_cases h3:lookB s i=110
   ·exact l1_no n m' R s i w h hs hi h3
   by_cases h4:lookB s i=126
   ·exact xiO n m' R s i w h hs hi h4
   by_cases h5:lookB s i=63
   ·exact xiR n hn m' R s i w (by omega) (by omega) h hs hi h5
   by_cases h6:lookB s i=91
   ·exact xiS n hn m' R s i w (by omega) (by omega) h hs hi h6
   by_cases h7:lookB s i=123
   ·exact xiT n hn m' R s i w (by omega) (by omega) h hs hi h7
   ·exact l1_num n m' R s i w h hs hi h1 h2 h3 h4 h5 h6 h7
end Go.Proofs.YtelogmjfekhmpaaGreatDoor
