import Derived.Test.YtelogmjfekhmpaaGreatDoorKForm
namespace Go.Proofs.YtelogmjfekhmpaaGreatDoor
set_option maxRecDepth 100000
set_option maxHeartbeats 16000000
open Go.RowKit
theorem qeA {w:World} {N:Nat} (h:w.heap[N]?=some (.cells #[.int .i64 0,.slice none 0 0,.slice none 0 0] 55 (0,0))) :
  (w.cell? ⟨N,0,none⟩=some (.int .i64 0)/\w.cell? ⟨N,1,none⟩=some (.slice none 0 0)/\w.cell? ⟨N,2,none⟩=some (.slice none 0 0)) /\
   w.frozen? ⟨N,0,none⟩=false/\w.frozen? ⟨N,1,none⟩=false/\w.frozen? ⟨N,2,none⟩=false:=by
 refine⟨⟨?_,?_,?_⟩,?_,?_,?_⟩ <;> simp[World.cell?,World.frozen?,h]
theorem Scan.alloc {R:Nat} {w w1:World} {q:Nat} {o:Obj} (h:Scan R (w.alloc o) w1 q) (hR:R<w.heap.size):Scan R w w1 q:=
 ⟨(Near.alloc R w o).trans h.near,fun p hp=>(h.cells p hp).trans (World.cell?_of_block (w:=w) (w':=w.alloc o) (a:=⟨R,p,none⟩) (Below.heap_alloc _ _ _ hR)),h.at1,fun p=>(h.fz p).trans (by
  have:(w.alloc o).heap[R]?=w.heap[R]?:=Below.heap_alloc _ _ _ hR
  simp only[World.frozen?,this])⟩
theorem qkD {R i m q:Nat} {s:ByteArray} {w W:World} {k:K (m+1)} {g0 g1 g2:Value} (hS:Scan R w W q) (hR:R<w.heap.size) (hp:qaM (m+1) (s.data.toList.drop i)=some (k,s.data.toList.drop q)) (hiq:i<q) (hq:q<=s.size)
  (hk:KindIn (fun b=>w.heap.size+1<=b/\b<W.heap.size) W (m+1) k g0 g1 g2):qgQ R s i (m+1) w (.returned (.agg #[g0,g1,g2])) (put3 W w.heap.size 0 g0 g1 g2):=by
 have q:∀ b,b≠w.heap.size->(put3 W w.heap.size 0 g0 g1 g2).heap[b]?=W.heap[b]?:=fun b h=>qcX h
 have hz:(put3 W w.heap.size 0 g0 g1 g2).heap.size=W.heap.size:=qfI
 have hn:Near R w (put3 W w.heap.size 0 g0 g1 g2):=⟨hS.near.os,hS.near.tape,hS.near.output,by rw[hz];exact hS.near.size,fun b hb hne=>(q b (by omega)).trans (hS.near.block b hb hne)⟩
 refine .inl ⟨k,_,g0,g1,g2,hp,hiq,hq,rfl,hk.keep (fun b hb=>q b (by omega)) (fun b hb=>⟨by omega,by rw[hz];exact hb.2⟩),hS.same hn (q R (by omega))⟩
theorem quR (S:Nat->Prop) (w:World) (m:Nat) (x:Int) (hx:(Lit.int .i64 x).wf=true):KindIn S w (m+1) (⟨x,[],[]⟩:Kd (K m)) (.int .i64 x) (.slice none 0 0) (.slice none 0 0):=
 ⟨rfl,hx,⟨none,0,rfl,by simp[maxLen],fun s h=>(by cases h),fun h=>absurd rfl h⟩,⟨none,0,rfl,by simp[maxLen],fun h=>absurd rfl h⟩⟩
theorem xhZ {S:Nat->Prop} {w:World} {m:Nat} {x:Int} {t:K m} {b c:Nat} {c0 c1 c2:Value} (hx:(Lit.int .i64 x).wf=true) (hb:S b) (h0:w.cell? ⟨b,0,none⟩=some c0) (h1:w.cell? ⟨b,1,none⟩=some c1) (h2:w.cell? ⟨b,2,none⟩=some c2) (ht:KindIn S w m t c0 c1 c2) :
  KindIn S w (m+1) (⟨x,[],[t]⟩:Kd (K m)) (.int .i64 x) (.slice none 0 0) (.slice (some ⟨b,0,none⟩) 1 c):=by
 refine⟨rfl,hx,⟨none,0,rfl,by simp[maxLen],fun s h=>(by cases h),fun h=>absurd rfl h⟩,⟨some ⟨b,0,none⟩,c,rfl,by simp[maxLen],fun _=>⟨b,0,rfl,hb,fun i hi=>?_⟩⟩⟩
 have:i=0:=by simpa using hi
 subst this
 exact⟨c0,c1,c2,by simpa using h0,by simpa using h1,by simpa using h2,ht⟩
theorem xiV {m:Nat} {l r:List UInt8} (h1:eatP [110,117,109] l=none) (h2:eatP [116,101,120,116] l=none) (h3:eatP [102,108,97,103] l=none) (h4:eatP [91] l=some r) :
  (oneQ (qaM m) [93] r=none->qaM (m+1) l=none)/\(∀ k r',oneQ (qaM m) [93] r=some (k,r')->qaM (m+1) l=some ((⟨4,[],[k]⟩:Kd (K m)),r')):=by
 refine⟨fun h=>?_,fun k r' h=>?_⟩
 ·simp only[qaM,h1,h2,h3,h4,h]
 ·simp only[qaM,h1,h2,h3,h4,h];rfl
theorem xgP {m:Nat} {l r:List UInt8} (h1:eatP [110,117,109] l=none) (h2:eatP [116,101,120,116] l=none) (h3:eatP [102,108,97,103] l=none) (h4:eatP [91] l=none) (h5:eatP [63] l=some r) :
  (qaM m r=none->qaM (m+1) l=none)/\(∀ k r',qaM m r=some (k,r')->qaM (m+1) l=some ((⟨6,[],[k]⟩:Kd (K m)),r')):=by
 refine⟨fun h=>?_,fun k r' h=>?_⟩
 ·simp only[qaM,oneQ,h1,h2,h3,h4,h5,h]
 ·simp only[qaM,oneQ,xfI,h1,h2,h3,h4,h5,h];rfl
theorem xiW {m:Nat} {l:List UInt8} (h1:eatP [110,117,109] l=none) (h2:eatP [116,101,120,116] l=none) (h3:eatP [102,108,97,103] l=none) (h4:eatP [91] l=none) (h5:eatP [63] l=none) :
  (eatP [123] l=none->qaM (m+1) l=none)/\(∀ r,eatP [123] l=some r->(formQ (qaM m) (r.length+1) [] [] r=none->qaM (m+1) l=none)/\(∀ ns ks r',formQ (qaM m) (r.length+1) [] [] r=some (ns,ks,r')->qaM (m+1) l=some ((⟨5,ns,ks⟩:Kd (K m)),r'))):=by
 refine⟨fun h=>?_,fun r h=>⟨fun h'=>?_,fun ns ks r' h'=>?_⟩⟩
 ·simp only[qaM,h1,h2,h3,h4,h5,h]
 ·simp only[qaM,h1,h2,h3,h4,h5,h,h']
 ·simp only[qaM,h1,h2,h3,h4,h5,h,h'];rfl
theorem xcX {α:Type} {f:List UInt8->Option (α × List UInt8)} {c s:List UInt8} (h:f s=none):oneQ f c s=none:=by simp only[oneQ,h]
theorem xcY {α:Type} {f:List UInt8->Option (α × List UInt8)} {c s r:List UInt8} {k:α} (h:f s=some (k,r)) (h2:eatP c r=none):oneQ f c s=none:=by simp only[oneQ,h,h2]
theorem xgQ {α:Type} {f:List UInt8->Option (α × List UInt8)} {c s r r':List UInt8} {k:α} (h:f s=some (k,r)) (h2:eatP c r=some r'):oneQ f c s=some (k,r'):=by simp only[oneQ,h,h2]
theorem xcZ (m:Nat) (hm:qoP m):qoP (m+1):=by
 intro R s i w h hi hs bE
 have hR:=h.lt
 obtain⟨W,hW⟩:∃ W,W=w.alloc (.cells #[.int .i64 0,.slice none 0 0,.slice none 0 0] 55):=⟨_,rfl⟩
 have bB:W.heap.size=w.heap.size+1:=by rw[hW];simp
 have bA:Below w.heap.size w W:=by rw[hW];exact (Below.refl _ _).alloc (Nat.le_refl _) _
 have HZ:Hid (W.heap[w.heap.size]?=some (.cells #[.int .i64 0,.slice none 0 0,.slice none 0 0] 55 (0,0))):=by rw[hW];exact heap_alloc_new _ _
 have aA:Hid (Scan R w W i):=(Scan.refl h).below bA hR
 have aG:Hid (Sc w R s i):=h
 have HM:Hid (qoP m):=hm
 have aJ:Hid (∀ W1 q,Scan R W W1 q->W1.heap[w.heap.size]?=some (.cells #[.int .i64 0,.slice none 0 0,.slice none 0 0] 55 (0,0))):=fun W1 q hq=>(hq.near.block w.heap.size (by omega) (by omega)).trans HZ.out
 have aQ:Hid (Calls Tryz.prog 155 #[.pointer (some ⟨R,0,none⟩),.string ⟨#[110,117,109]⟩] W _):=qdJ W R s ⟨#[110,117,109]⟩ i (aA.out.sc h) hs (by decide) hi
 clear h hm
 go_enter Tryz.func143,Tryz.ntmps143
 go_wp2_with fail
 rw[<- hW]
 clear hW
 refine aQ.out.mono ?_
 rintro e w1 (⟨p1,rfl,p2,p3⟩|⟨p1,rfl,p2⟩)
 ·have p1:eatP [110,117,109] (s.data.toList.drop i)=some (s.data.toList.drop (i+3)):=p1
  have p2:Scan R W w1 (i+3):=p2
  have HP:Hid (qgQ R s i (m+1) w (.returned (.agg #[.int .i64 1,.slice none 0 0,.slice none 0 0])) (put3 w1 w.heap.size 0 (.int .i64 1) (.slice none 0 0) (.slice none 0 0))):=
   qkD (aA.out.trans p2) hR (by simp only[qaM,p1]) (by omega) p3 (quR _ _ m 1 rfl)
  obtain⟨⟨r0,r1,r2⟩,f0,f1,f2⟩:=qeA (aJ.out w1 _ p2)
  clear p1 p2 p3 aQ
  go_wp2_with fail
  refine bodyPost_ret (v:=.agg #[.int .i64 1,.slice none 0 0,.slice none 0 0]) (by simp[results,Tryz.results143,go_sem,r0,r1,r2]) rfl ?_
  exact HP.out
 have aH:Hid (eatP [110,117,109] (s.data.toList.drop i)=none):=p1
 have aR:Hid (Scan R W w1 i):=p2
 have aS:Hid (Calls Tryz.prog 155 #[.pointer (some ⟨R,0,none⟩),.string ⟨#[116,101,120,116]⟩] w1 _):=qdJ w1 R s ⟨#[116,101,120,116]⟩ i ((aA.out.trans p2).sc aG.out) hs (by decide) hi
 clear p1 p2 aQ
 go_wp2_with fail
 refine aS.out.mono ?_
 rintro e w2 (⟨p1,rfl,p2,p3⟩|⟨p1,rfl,p2⟩)
 ·have p1:eatP [116,101,120,116] (s.data.toList.drop i)=some (s.data.toList.drop (i+4)):=p1
  have p2:Scan R W w2 (i+4):=aR.out.trans p2
  have HP:Hid (qgQ R s i (m+1) w (.returned (.agg #[.int .i64 2,.slice none 0 0,.slice none 0 0])) (put3 w2 w.heap.size 0 (.int .i64 2) (.slice none 0 0) (.slice none 0 0))):=
   qkD (aA.out.trans p2) hR (by simp only[qaM,aH.out,p1]) (by omega) p3 (quR _ _ m 2 rfl)
  obtain⟨⟨r0,r1,r2⟩,f0,f1,f2⟩:=qeA (aJ.out w2 _ p2)
  clear p1 p2 p3 aS
  go_wp2_with fail
  refine bodyPost_ret (v:=.agg #[.int .i64 2,.slice none 0 0,.slice none 0 0]) (by simp[results,Tryz.results143,go_sem,r0,r1,r2]) rfl ?_
  exact HP.out
 have aI:Hid (eatP [116,101,120,116] (s.data.toList.drop i)=none):=p1
 have aN:Hid (Scan R W w2 i):=aR.out.trans p2
 have aT:Hid (Calls Tryz.prog 155 #[.pointer (some ⟨R,0,none⟩),.string ⟨#[102,108,97,103]⟩] w2 _):=qdJ w2 R s ⟨#[102,108,97,103]⟩ i ((aA.out.trans aN.out).sc aG.out) hs (by decide) hi
 clear p1 p2 aS aR
 go_wp2_with fail
 refine aT.out.mono ?_
 rintro e w3 (⟨p1,rfl,p2,p3⟩|⟨p1,rfl,p2⟩)
 ·have p1:eatP [102,108,97,103] (s.data.toList.drop i)=some (s.data.toList.drop (i+4)):=p1
  have p2:Scan R W w3 (i+4):=aN.out.trans p2
  have HP:Hid (qgQ R s i (m+1) w (.returned (.agg #[.int .i64 3,.slice none 0 0,.slice none 0 0])) (put3 w3 w.heap.size 0 (.int .i64 3) (.slice none 0 0) (.slice none 0 0))):=
   qkD (aA.out.trans p2) hR (by simp only[qaM,aH.out,aI.out,p1]) (by omega) p3 (quR _ _ m 3 rfl)
  obtain⟨⟨r0,r1,r2⟩,f0,f1,f2⟩:=qeA (aJ.out w3 _ p2)
  clear p1 p2 p3 aT
  go_wp2_with fail
  refine bodyPost_ret (v:=.agg #[.int .i64 3,.slice none 0 0,.slice none 0 0]) (by simp[results,Tryz.results143,go_sem,r0,r1,r2]) rfl ?_
  exact HP.out
 have aK:Hid (eatP [102,108,97,103] (s.data.toList.drop i)=none):=p1
 have aL:Hid (Scan R W w3 i):=aN.out.trans p2
 have aU:Hid (Calls Tryz.prog 155 #[.pointer (some ⟨R,0,none⟩),.string ⟨#[91]⟩] w3 _):=qdJ w3 R s ⟨#[91]⟩ i ((aA.out.trans aL.out).sc aG.out) hs (by decide) hi
 clear p1 p2 aT aN
 go_wp2_with fail
 refine aU.out.mono ?_
 rintro e w4 (⟨p1,rfl,p2,p3⟩|⟨p1,rfl,p2⟩)
 ·have p1:eatP [91] (s.data.toList.drop i)=some (s.data.toList.drop (i+1)):=p1
  have p2:Scan R W w4 (i+1):=aL.out.trans p2
  have p3:i+1<=s.size:=p3
  have aD:Hid (_/\_):=xiV (m:=m) aH.out aI.out aK.out p1
  have aE:Hid (Scan R W w4 (i+1)):=p2
  have HK:Hid (Calls Tryz.prog 143 #[.pointer (some ⟨R,0,none⟩)] w4 (qgQ R s (i+1) m w4)):=HM.out R s _ w4 ((aA.out.trans p2).sc aG.out) p3 hs (by omega)
  clear p1 p2 aU aL aH aI aK
  go_wp2_with fail
  refine HK.out.mono ?_
  rintro e w5 (⟨t,q,c0,c1,c2,y1,y2,y3,rfl,y4,y5⟩|⟨y1,rfl,y2⟩)
  case inr=>
   refine⟨rfl,.inr ⟨?_,rfl,(aA.out.trans aE.out).near.trans y2⟩⟩
   exact aD.out.1 (xcX y1)
  obtain⟨z0,za,zl,zc,ua,ul,uc,rfl,rfl,rfl⟩:=y4.shape
  have aX:=y5.near.size
  have bC:=aE.out.near.size
  have HY:Hid (KindIn (fun b=>w4.heap.size<=b/\b<w5.heap.size) w5 m t (.int .i64 z0) (.slice za zl zc) (.slice ua ul uc)):=y4
  have aY:Below w5.heap.size w5 (w5.alloc (.cells #[.int .i64 z0,.slice za zl zc,.slice ua ul uc] 55)):=(Below.refl _ _).alloc (Nat.le_refl _) _
  have aB:Hid (Scan R W (w5.alloc (.cells #[.int .i64 z0,.slice za zl zc,.slice ua ul uc] 55)) q):=(aE.out.trans y5).below aY (by omega)
  have aO:=Box3.new w5 (.int .i64 z0) (.slice za zl zc) (.slice ua ul uc) 55
  have HW:Hid (Calls Tryz.prog 157 #[.pointer (some ⟨R,0,none⟩),.string ⟨#[93]⟩] (w5.alloc (.cells #[.int .i64 z0,.slice za zl zc,.slice ua ul uc] 55)) _):=qcY _ R s ⟨#[93]⟩ q ((aA.out.trans aB.out).sc aG.out) hs (by decide) y3
  have aV:Hid (qaM m (s.data.toList.drop (i+1))=some (t,s.data.toList.drop q)):=y1
  clear HK y4 y5 y1
  go_wp2_with fail
  refine HW.out.mono ?_
  rintro e w6 (⟨v1,rfl,v2,v3⟩|⟨v1,rfl,v2⟩)
  case inr=>exact⟨rfl,.inr ⟨aD.out.1 (xcY aV.out v1),rfl,(aA.out.trans aB.out).near.trans v2⟩⟩
  have v2:Scan R _ w6 (q+1):=v2
  have aZ:=v2.near.size
  simp only[World.size_alloc]at aZ
  have kk:∀ o,w6.cell? ⟨w5.heap.size,o,none⟩=(w5.alloc (.cells #[.int .i64 z0,.slice za zl zc,.slice ua ul uc] 55)).cell? ⟨w5.heap.size,o,none⟩:=fun o=>World.cell?_of_block (a:=⟨w5.heap.size,o,none⟩) (v2.near.block w5.heap.size (by simp) (by omega))
  have k0:=(kk 0).trans aO.c0
  have k1:=(kk 1).trans aO.c1
  have k2:=(kk 2).trans aO.c2
  have aM:Below w6.heap.size w6 (w6.alloc (.cells #[.int .i64 z0,.slice za zl zc,.slice ua ul uc] 55)):=(Below.refl _ _).alloc (Nat.le_refl _) _
  have aC:Hid (Scan R W (w6.alloc (.cells #[.int .i64 z0,.slice za zl zc,.slice ua ul uc] 55)) (q+1)):=(aB.out.trans v2).below aM (by omega)
  have aF:=Box3.new w6 (.int .i64 z0) (.slice za zl zc) (.slice ua ul uc) 55
  have HP:Hid (qgQ R s i (m+1) w (.returned (.agg #[.int .i64 4,.slice none 0 0,.slice (some ⟨w6.heap.size,0,none⟩) 1 1])) (put3 (w6.alloc (.cells #[.int .i64 z0,.slice za zl zc,.slice ua ul uc] 55)) w.heap.size 0 (.int .i64 4) (.slice none 0 0) (.slice (some ⟨w6.heap.size,0,none⟩) 1 1))):=by
   refine qkD (aA.out.trans aC.out) hR (aD.out.2 _ _ (xgQ aV.out v1)) (by show i<q+1;omega) v3 (xhZ rfl ⟨by omega,by simp⟩ aF.c0 aF.c1 aF.c2 ?_)
   refine HY.out.keep (fun b hb=>?_) (fun b hb=>⟨by omega,by simp;omega⟩)
   rw[Below.heap_alloc _ _ _ (by omega),v2.near.block b (by simp;omega) (by omega),Below.heap_alloc _ _ _ hb.2]
  obtain⟨⟨r0,r1,r2⟩,f0,f1,f2⟩:=qeA (aJ.out _ _ aC.out)
  clear v1 v2 v3 HW HY aV aB aC aO aF aY aM kk
  go_wp2_with fail
  refine bodyPost_ret (v:=.agg #[.int .i64 4,.slice none 0 0,.slice (some ⟨w6.heap.size,0,none⟩) 1 1]) (by simp[results,Tryz.results143,go_sem,r0,r1,r2]) rfl ?_
  exact HP.out
 have aP:Hid (eatP [91] (s.data.toList.drop i)=none):=p1
 have aE:Hid (Scan R W w4 i):=aL.out.trans p2
 have aW:Hid (Calls Tryz.prog 155 #[.pointer (some ⟨R,0,none⟩),.string ⟨#[63]⟩] w4 _):=qdJ w4 R s ⟨#[63]⟩ i ((aA.out.trans aE.out).sc aG.out) hs (by decide) hi
 clear p1 p2 aU aL
 go_wp2_with fail
 refine aW.out.mono ?_
 rintro e w5 (⟨p1,rfl,p2,p3⟩|⟨p1,rfl,p2⟩)
 ·have p1:eatP [63] (s.data.toList.drop i)=some (s.data.toList.drop (i+1)):=p1
  have p2:Scan R W w5 (i+1):=aE.out.trans p2
  have p3:i+1<=s.size:=p3
  have aD:Hid (_/\_):=xgP (m:=m) aH.out aI.out aK.out aP.out p1
  have aB:Hid (Scan R W w5 (i+1)):=p2
  have HK:Hid (Calls Tryz.prog 143 #[.pointer (some ⟨R,0,none⟩)] w5 (qgQ R s (i+1) m w5)):=HM.out R s _ w5 ((aA.out.trans p2).sc aG.out) p3 hs (by omega)
  clear p1 p2 aW aE aH aI aK aP
  go_wp2_with fail
  refine HK.out.mono ?_
  rintro e w6 (⟨t,q,c0,c1,c2,y1,y2,y3,rfl,y4,y5⟩|⟨y1,rfl,y2⟩)
  case inr=>exact⟨rfl,.inr ⟨aD.out.1 y1,rfl,(aA.out.trans aB.out).near.trans y2⟩⟩
  obtain⟨z0,za,zl,zc,ua,ul,uc,rfl,rfl,rfl⟩:=y4.shape
  have aX:=aB.out.near.size
  have aZ:=y5.near.size
  have aM:Below w6.heap.size w6 (w6.alloc (.cells #[.int .i64 z0,.slice za zl zc,.slice ua ul uc] 55)):=(Below.refl _ _).alloc (Nat.le_refl _) _
  have aC:Hid (Scan R W (w6.alloc (.cells #[.int .i64 z0,.slice za zl zc,.slice ua ul uc] 55)) q):=(aB.out.trans y5).below aM (by omega)
  have aF:=Box3.new w6 (.int .i64 z0) (.slice za zl zc) (.slice ua ul uc) 55
  have HP:Hid (qgQ R s i (m+1) w (.returned (.agg #[.int .i64 6,.slice none 0 0,.slice (some ⟨w6.heap.size,0,none⟩) 1 1])) (put3 (w6.alloc (.cells #[.int .i64 z0,.slice za zl zc,.slice ua ul uc] 55)) w.heap.size 0 (.int .i64 6) (.slice none 0 0) (.slice (some ⟨w6.heap.size,0,none⟩) 1 1))):=by
   refine qkD (aA.out.trans aC.out) hR (aD.out.2 _ _ y1) (by omega) y3 (xhZ rfl ⟨by omega,by simp⟩ aF.c0 aF.c1 aF.c2 ?_)
   refine y4.keep (fun b hb=>?_) (fun b hb=>⟨by omega,by simp;omega⟩)
   rw[Below.heap_alloc _ _ _ hb.2]
  obtain⟨⟨r0,r1,r2⟩,f0,f1,f2⟩:=qeA (aJ.out _ _ aC.out)
  clear HK y1 y4 y5 aB aC aF aM
  go_wp2_with fail
  refine bodyPost_ret (v:=.agg #[.int .i64 6,.slice none 0 0,.slice (some ⟨w6.heap.size,0,none⟩) 1 1]) (by simp[results,Tryz.results143,go_sem,r0,r1,r2]) rfl ?_
  exact HP.out
 have aD:Hid (_/\_):=xiW (m:=m) aH.out aI.out aK.out aP.out p1
 have aB:Hid (Scan R W w5 i):=aE.out.trans p2
 have aX:=aB.out.near.size
 have HK:Hid (Calls Tryz.prog 169 #[.pointer (some ⟨R,0,none⟩),.func (.func 143) #[.pointer (some ⟨R,0,none⟩)] #[]] w5 (qwO R s i m w5)):=qsL m HM.out R s i w5 ((aA.out.trans aB.out).sc aG.out) hi hs (by omega)
 have bD:∀ (fn:Fn) (first cap:Array Value) (w:World),(Instr.makeFunc fn first cap).run Tryz.prog w=.ok (.func fn first cap) w:=fun _ _ _ _=>rfl
 clear p1 p2 aW aE aH aI aK aP
 go_wp2_with fail
 refine HK.out.mono ?_
 rintro e w6 (⟨ns,ks,q,na,nc,ka,kc,ln,y0,y1,y2,y3,y4,rfl,y5,y6,y7⟩|⟨y1,rfl,y2⟩)
 case inr=>
  refine⟨rfl,.inr ⟨?_,rfl,(aA.out.trans aB.out).near.trans y2⟩⟩
  rcases y1 with y1|⟨y0,y1⟩
  ·exact aD.out.1 y1
  ·exact (aD.out.2 _ y0).1 y1
 have aC:Hid (Scan R W w6 q):=aB.out.trans y7
 have HP:Hid (qgQ R s i (m+1) w (.returned (.agg #[.int .i64 5,.slice na ln nc,.slice ka ln kc])) (put3 w6 w.heap.size 0 (.int .i64 5) (.slice na ln nc) (.slice ka ln kc))):=by
  refine qkD (aA.out.trans aC.out) hR ((aD.out.2 _ y0).2 _ _ _ y1) y2 y3 ⟨rfl,rfl,?_,?_⟩
  ·exact y5.keep (fun _ _=>rfl) (fun b hb=>⟨by omega,hb.2⟩)
  ·exact y6.keepK (fun _ _=>rfl) (fun b hb=>⟨by omega,hb.2⟩)
 obtain⟨⟨r0,r1,r2⟩,f0,f1,f2⟩:=qeA (aJ.out _ _ aC.out)
 clear HK y0 y1 y5 y6 y7 aB aC
 go_wp2_with fail
 refine bodyPost_ret (v:=.agg #[.int .i64 5,.slice na ln nc,.slice ka ln kc]) (by simp[results,Tryz.results143,go_sem,r0,r1,r2]) rfl ?_
 exact HP.out
theorem xgR:∀ m,qoP m:=by
 intro m
 induction m with
 | zero=>intro R s i w _ _ _ h;exact absurd h (Nat.not_lt_zero _)
 | succ m ih=>exact xcZ m ih
end Go.Proofs.YtelogmjfekhmpaaGreatDoor
