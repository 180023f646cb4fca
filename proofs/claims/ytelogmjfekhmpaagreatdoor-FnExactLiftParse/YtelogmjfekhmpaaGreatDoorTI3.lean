import Derived.Test.YtelogmjfekhmpaaGreatDoorTI1
import Derived.Lib.Hide
import Derived.WalkSmall
import Derived.LoopTactic
namespace Go.Proofs.YtelogmjfekhmpaaGreatDoor
set_option maxRecDepth 100000
set_option maxHeartbeats 16000000
open Go.RowKit
theorem Tryz.info_anyQ:(Tryz.prog.info? 133).map (fun i=>(i.zero,i.size,i.bytes))=some (some .nilIface,1,16):=by kernel_rfl
def listR {α:Type} (f:List UInt8->Option (α × List UInt8)) (k:Nat) (acc:List α) (s1:List UInt8):Option (List α × List UInt8):=
 match f s1 with
 | none=>none
 | some (t,r)=>listQ f k (acc++[t]) r
theorem xdH {α:Type} {f:List UInt8->Option (α × List UInt8)} {k:Nat} {acc:List α} {s r:List UInt8} (h:eatP [93] s=some r):listQ f (k+1) acc s=some (acc,r):=by
 rw[listQ,h]
theorem quU {α:Type} {f:List UInt8->Option (α × List UInt8)} {k:Nat} {acc:List α} {s:List UInt8} (h:eatP [93] s=none) (h0:acc.length=0):listQ f (k+1) acc s=listR f k acc s:=by
 rw[listQ,h];simp only[h0,if_true];rfl
theorem qyM {α:Type} {f:List UInt8->Option (α × List UInt8)} {k:Nat} {acc:List α} {s s1:List UInt8} (h:eatP [93] s=none) (h0:¬ acc.length=0) (h1:eatP [44] s=some s1):listQ f (k+1) acc s=listR f k acc s1:=by
 rw[listQ,h];simp only[if_neg h0,h1];rfl
theorem qyN {α:Type} {f:List UInt8->Option (α × List UInt8)} {k:Nat} {acc:List α} {s:List UInt8} (h:eatP [93] s=none) (h0:¬ acc.length=0) (h1:eatP [44] s=none):listQ f (k+1) acc s=none:=by
 rw[listQ,h];simp only[if_neg h0,h1]
theorem xdI {α:Type} {f:List UInt8->Option (α × List UInt8)} {k:Nat} {acc:List α} {s:List UInt8} (h1:f s=none):listR f k acc s=none:=by
 rw[listR,h1]
theorem xdJ {α:Type} {f:List UInt8->Option (α × List UInt8)} {k:Nat} {acc:List α} {s r:List UInt8} {t:α} (h1:f s=some (t,r)):listR f k acc s=listQ f k (acc++[t]) r:=by
 rw[listR,h1]
def qgZ (m:Nat) (s:ByteArray) (i:Nat):Option (List (T m) × List UInt8):=listQ (qaH m) ((s.data.toList.drop (i+1)).length+1) [] (s.data.toList.drop (i+1))
theorem xdK (m:Nat) (hm:qgY m) (B R:Nat) (s:ByteArray) (i:Nat) (w:World) (hL:LaidU B w) (hBR:B<=R) (h:Sc w R s i) (hMe:Meth w R) (hi:i<=s.size) (hs:s.size<=10000) (hlt:s.size - i<=m) (hc:(s.data.toList.drop i).headD 0=91) :
  Calls Tryz.prog 131 #[.pointer (some ⟨R,0,none⟩)] w (TRPost R s i (m+1) w):=by
 have HW:aA (Calls Tryz.prog 157 #[.pointer (some ⟨R,0,none⟩),.string ⟨#[91]⟩] w _):=qcY w R s ⟨#[91]⟩ i h hs (by decide) hi
 have hR:=h.lt
 have HM:aA (qgY m/\LaidU B w/\Meth w R):=⟨hm,hL,hMe⟩
 have aD:aA (Sc w R s i):=h
 have aP:aA ((qgZ m s i=none->qaH (m+1) (s.data.toList.drop i)=none)/\(∀ ks r,qgZ m s i=some (ks,r)->qaH (m+1) (s.data.toList.drop i)=some ((⟨4,0,ByteArray.empty,[],ks⟩:Nd (T m)),r))):=by
  have:=xjA (m:=m) hc
  rw[List.drop_drop]at this
  exact this
 have HE:aA (eatP [91] (s.data.toList.drop i)=some ((s.data.toList.drop i).drop 1)):=qjI hc (by decide)
 clear h hm hL hMe hc
 go_enter Tryz.func131,Tryz.ntmps131
 go_wp2_with fail
 refine HW.out.mono ?_
 rintro e w1 (⟨h1,rfl,h2,h3⟩|⟨h1,rfl,h2⟩)
 case inr=>
  have h1:eatP [91] (s.data.toList.drop i)=none:=h1
  rw[HE.out]at h1;cases h1
 have h2:Scan R w w1 (i+1):=h2
 have h3:i+1<=s.size:=h3
 clear h1 HW
 go_wp2_with fail
 go_loopw [3] (fun kv wr=>∃ (ks:List (T m)) (j fuel ln:Nat) (ka:Option Addr) (kc:Nat),ks.length=ln/\ln<=j/\kv=.slice ka ln kc/\RTree R m w wr [] ks (.slice none 0 0) (.slice ka ln kc)/\Scan R w wr j/\i<j/\j<=s.size /\
   listQ (qaH m) (fuel+1) ks (s.data.toList.drop j)=qgZ m s i/\s.size - j<=fuel) (fun _ wr=>s.size - atS wr R)
 case atStart=>exact⟨[],i+1,(s.data.toList.drop (i+1)).length,0,none,0,rfl,by omega,rfl,RTree.start R m w w1 h2.near,h2,by omega,h3,rfl,by simp⟩
 case round=>
  obtain⟨ks,j,fuel,ln,ka,kc,aV,bJ,rfl,hF,hS,bK,hj,hG,bL⟩:=hrel
  have HN:aA (ks.length=ln):=aV
  have HF:aA (RTree R m w wr [] ks (.slice none 0 0) (.slice ka ln kc)):=hF
  have HS:aA (Scan R w wr j):=hS
  have HG:aA (listQ (qaH m) (fuel+1) ks (s.data.toList.drop j)=qgZ m s i):=hG
  have HA:aA (atS wr R=j):=hS.atS
  have HC:aA (Calls Tryz.prog 155 #[.pointer (some ⟨R,0,none⟩),.string ⟨#[93]⟩] wr _):=qdJ wr R s ⟨#[93]⟩ j (hS.sc aD.out) hs (by decide) hj
  clear aV hF hS hG h2 h3
  go_wp2_with fail
  refine HC.out.mono ?_
  rintro e w1 (⟨p1,rfl,p2,p3⟩|⟨p1,rfl,p2⟩)
  ·have HP:aA (TRPost R s i (m+1) w (.returned (.iface 170 (.slice ka ln kc))) w1):=by
    have p2:Scan R wr w1 (j+1):=p2
    have p3:j+1<=s.size:=p3
    have bC:=HF.out.keep hR p2.near
    obtain⟨-,r2⟩:=bC.rows (by simp) (by rw[HN.out];omega)
    exact .inl ⟨_,j+1,_,aP.out.2 ks _ (by rw[<- HG.out];exact xdH p1),by omega,p3,rfl,.inr (.inr (.inr (.inl ⟨rfl,_,rfl,r2⟩))),HS.out.trans p2⟩
   clear p1 p2 p3 HC HF HS HG
   go_wp2_with fail
   go_ret
   exact HP.out
  ·have p1:eatP [93] (s.data.toList.drop j)=none:=p1
   have aE:aA (RTree R m w w1 [] ks (.slice none 0 0) (.slice ka ln kc)):=HF.out.keep hR p2.near
   have aI:aA (Scan R w w1 j):=HS.out.trans p2
   clear HF HS HC p2
   have aQ:aA (∀ W,qgZ m s i=none->Near R w W->TRPost R s i (m+1) w (.panicked refusal) W):=fun W h1 h2=>.inr ⟨aP.out.1 h1,rfl,h2⟩
   rcases Nat.eq_zero_or_pos ln with h0|h0
   case' inl=>
    obtain⟨j1,aG⟩:∃ j1,j1=j:=⟨_,rfl⟩
    have HQ:aA (listR (qaH m) fuel ks (s.data.toList.drop j1)=qgZ m s i):=by
     show _=_
     rw[aG,<- HG.out];exact (quU p1 (by rw[HN.out];exact h0)).symm
    have aF:aA (Scan R w w1 j1):=by rw[aG];exact aI
    have aJ:j1<=s.size:=by omega
    have bD:j<=j1:=by omega
    have hd:(0<ln)=False:=eq_false (by omega)
    clear h0 aI HG aG p1
    go_wp2_with fail
    clear hd
   case' inr=>
    have HC:aA (Calls Tryz.prog 157 #[.pointer (some ⟨R,0,none⟩),.string ⟨#[44]⟩] w1 _):=qcY w1 R s ⟨#[44]⟩ j (aI.out.sc aD.out) hs (by decide) hj
    have hd:0<ln:=h0
    go_wp2_with fail
    refine HC.out.mono ?_
    rintro e w1 (⟨q1,rfl,q2,q3⟩|⟨q1,rfl,q2⟩)
    case inr=>
     refine⟨rfl,aQ.out w1 ?_ (aI.out.near.trans q2)⟩
     rw[<- HG.out];exact qyN p1 (by rw[HN.out];omega) q1
    obtain⟨j1,aG⟩:∃ j1,j1=j+1:=⟨_,rfl⟩
    have q2:Scan R _ w1 (j+1):=q2
    have q3:j+1<=s.size:=q3
    have HQ:aA (listR (qaH m) fuel ks (s.data.toList.drop j1)=qgZ m s i):=by
     show _=_
     rw[aG,<- HG.out];exact (qyM p1 (by rw[HN.out];omega) q1).symm
    have aF:aA (Scan R w w1 j1):=by rw[aG];exact aI.out.trans q2
    have aJ:j1<=s.size:=by omega
    have bD:j<=j1:=by omega
    have aR:=aE.out.keep hR q2.near
    clear aE
    have aE:aA (RTree R m w w1 [] ks (.slice none 0 0) (.slice ka ln kc)):=aR
    clear aR aI HG aG p1 q1 q2 q3 h0 HC
    go_wp2_with fail
    clear hd
   all_goals
    have HK:aA (Calls Tryz.prog 133 #[.pointer (some ⟨R,0,none⟩)] w1 (TRPost R s j1 m w1)):=HM.out.1 B R s _ w1 (HM.out.2.1.near aF.out.near hBR hR) hBR (aF.out.sc aD.out) (HM.out.2.2.scan aF.out) aJ hs (by omega)
    obtain⟨xs,aH,aW⟩:=aE.out.kids
    have aS:aA (∀ q (h:q<ks.length),_):=aW
    have aL:aA (w1.ownsRow w.heap.size 133 1 (.slice ka ln kc) ln xs):=by
     rw[HN.out]at aH;exact aH
    clear aH aW
    refine HK.out.mono ?_
    rintro e w5 (⟨t,q,c,y1,y2,y3,rfl,y4,y5⟩|⟨y1,rfl,y2⟩)
    case inr=>exact⟨rfl,aQ.out w5 (by rw[<- HQ.out];exact xdI y1) (aF.out.near.trans y2)⟩
    obtain⟨zt,zx,rfl⟩:=id y4.iface
    have bH:=y5.near.size
    have bI:=aE.out.near.size
    have aT:aA (w5.ownsRow w.heap.size 133 1 (.slice ka ln kc) ln xs):=qbG aL.out (fun g' hg'=>by
     have:=r1_lt aL.out g' hg'
     exact y5.near.block g' this.2 (by omega))
    have HY:aA (InnerT (fun b=>w1.heap.size<=b/\b<w5.heap.size) w5 m t (.iface zt zx)/\Scan R w1 w5 q):=⟨y4,y5⟩
    have bE:aA (listQ (qaH m) fuel (ks++[t]) (s.data.toList.drop q)=qgZ m s i):=by
     show _=_
     rw[<- HQ.out]
     exact (xdJ y1).symm
    obtain⟨ik0,aX,aY,aZ,bA⟩:=info_parts Tryz.info_anyQ
    have aM:aA (_/\_/\_/\_):=⟨aX,aY,aZ,bA⟩
    clear aX aY aZ bA y1 y4 y5 HK HQ
    go_wp2_with (at_builtin;refine wpList_append_lies _ rfl (.tmp 20) (.tmp 23) 170 rfl w.heap.size 133 ik0 _ 1 16 Tryz.underlying170 aM.out.1 aM.out.2.1 aM.out.2.2.1 aM.out.2.2.2 rfl (by decide) (.slice ka ln kc) ln xs rfl (aT.out.alloc _) ⟨w5.heap.size,0,none⟩ 1 1 [.iface zt zx] rfl rfl (World.news_of_block (heap_alloc_new w5 _)) (by simp[Value.oneCell']) (by decide) (by unfold maxLen;omega) (by omega) (by simp;omega) (w5.heap.size+1) (by simp) ?_;intro g2 cap2 w6 aC aB aK aO;refine aA.out ?_)
    refine Lib.hid ?_
    obtain⟨aN,bB,bG⟩:=aE.out.kid (W1:=w5) (Wa:=w5.alloc (.cells #[.iface zt zx] 133)) (one:=.cells #[.iface zt zx] 133) (g:=g2) (cap:=cap2) hR HY.out.2.near HY.out.1 rfl ⟨rfl,rfl,rfl⟩ (by rw[HN.out];exact aL.out) aS.out (by rw[HN.out];exact aC) aB aK
    rw[HN.out]at aN
    have bF:aA (RTree R m w w6 [] (ks++[t]) (.slice none 0 0) (.slice (some ⟨g2,0,none⟩) (ln+1) cap2)):=aN
    have aU:aA (Scan R w w6 q):=(aF.out.trans HY.out.2).same aN.near (bB R hR)
    obtain⟨f',rfl⟩:∃ f',fuel=f'+1:=⟨fuel - 1,by omega⟩
    clear aN bB bG aC aB aK aO aT aL aS aE aF HY
    go_wp2_with fail
    go_roundw
    case rel=>exact⟨ks++[t],q,f',ln+1,some ⟨g2,0,none⟩,cap2,by simp[HN.out],by omega,rfl,bF.out,aU.out,by omega,y3,bE.out,by omega⟩
    case measure=>rw[aU.out.atS,HA.out];omega
def qfX (m:Nat) (s:ByteArray) (i:Nat):Option (List ByteArray × List (T m) × List UInt8):=formQ (qaH m) ((s.data.toList.drop (i+1)).length+1) [] [] (s.data.toList.drop (i+1))
def xdL (R:Nat) (s:ByteArray) (i m:Nat) (w:World) (e:Ending) (w':World):Prop:=
 (∃ (ns:List ByteArray) (ks:List (T m)) (q:Nat) (na:Option Addr) (nc:Nat) (ka:Option Addr) (kc ln:Nat),eatP [123] (s.data.toList.drop i)=some (s.data.toList.drop (i+1))/\qfX m s i=some (ns,ks,s.data.toList.drop q)/\i<q/\q<=s.size/\ln<=10000 /\
  e=.returned (.tuple #[.slice na ln nc,.slice ka ln kc])/\StrsIn (fun b=>w.heap.size<=b/\b<w'.heap.size) w' ns (.slice na ln nc) /\
  Row1 (fun b=>w.heap.size<=b/\b<w'.heap.size) w' (InnerT (fun b=>w.heap.size<=b/\b<w'.heap.size) w' m) ks (.slice ka ln kc)/\Scan R w w' q) ∨
  ((eatP [123] (s.data.toList.drop i)=none∨(eatP [123] (s.data.toList.drop i)=some (s.data.toList.drop (i+1))/\qfX m s i=none))/\e=.panicked refusal/\Near R w w')
theorem qqD (m:Nat) (hm:qgY m) (B R:Nat) (s:ByteArray) (i:Nat) (w:World) (hL:LaidU B w) (hBR:B<=R) (h:Sc w R s i) (hMe:Meth w R) (hi:i<=s.size) (hs:s.size<=10000) (hlt:s.size - i<=m) :
  Calls Tryz.prog 159 #[.pointer (some ⟨R,0,none⟩),.func (.func 133) #[.pointer (some ⟨R,0,none⟩)] #[]] w (xdL R s i m w):=by
 have HW:aA (Calls Tryz.prog 157 #[.pointer (some ⟨R,0,none⟩),.string ⟨#[123]⟩] w _):=qcY w R s ⟨#[123]⟩ i h hs (by decide) hi
 have hR:=h.lt
 have HM:aA (qgY m/\LaidU B w/\Meth w R):=⟨hm,hL,hMe⟩
 have aB:aA (Sc w R s i):=h
 clear h hm hL hMe
 go_enter Tryz.func159,Tryz.ntmps159
 go_wp2_with fail
 refine HW.out.mono ?_
 rintro e w1 (⟨h1,rfl,h2,h3⟩|⟨h1,rfl,h2⟩)
 case inr=>exact⟨rfl,.inr ⟨.inl h1,rfl,h2⟩⟩
 have HE:aA (eatP [123] (s.data.toList.drop i)=some (s.data.toList.drop (i+1))):=h1
 have h2:Scan R w w1 (i+1):=h2
 have h3:i+1<=s.size:=h3
 clear h1 HW
 go_wp2_with fail
 go_loopw [4,5] (fun nv kv wr=>∃ (ns:List ByteArray) (ks:List (T m)) (j fuel ln:Nat) (na:Option Addr) (nc:Nat) (ka:Option Addr) (kc:Nat),ns.length=ln/\ks.length=ln/\ln<=j/\nv=.slice na ln nc/\kv=.slice ka ln kc/\RTree R m w wr ns ks (.slice na ln nc) (.slice ka ln kc)/\Scan R w wr j/\i<j/\j<=s.size /\
   formQ (qaH m) (fuel+1) ns ks (s.data.toList.drop j)=qfX m s i/\s.size - j<=fuel) (fun _ _ wr=>s.size - atS wr R)
 case atStart=>exact⟨[],[],i+1,(s.data.toList.drop (i+1)).length,0,none,0,none,0,rfl,rfl,by omega,rfl,rfl,RTree.start R m w w1 h2.near,h2,by omega,h3,rfl,by simp⟩
 case round=>
  obtain⟨ns,ks,j,fuel,ln,na,nc,ka,kc,bN,bO,cC,rfl,rfl,hF,hS,cD,hj,hG,cE⟩:=hrel
  have HN:aA (ns.length=ln/\ks.length=ln):=⟨bN,bO⟩
  have HF:aA (RTree R m w wr ns ks (.slice na ln nc) (.slice ka ln kc)):=hF
  have HS:aA (Scan R w wr j):=hS
  have HG:aA (formQ (qaH m) (fuel+1) ns ks (s.data.toList.drop j)=qfX m s i):=hG
  have HA:aA (atS wr R=j):=hS.atS
  have HC:aA (Calls Tryz.prog 155 #[.pointer (some ⟨R,0,none⟩),.string ⟨#[125]⟩] wr _):=qdJ wr R s ⟨#[125]⟩ j (hS.sc aB.out) hs (by decide) hj
  clear bN bO hF hS hG h2 h3
  go_wp2_with fail
  refine HC.out.mono ?_
  rintro e w1 (⟨p1,rfl,p2,p3⟩|⟨p1,rfl,p2⟩)
  ·have HP:aA (xdL R s i m w (.returned (.tuple #[.slice na ln nc,.slice ka ln kc])) w1):=by
    have p2:Scan R wr w1 (j+1):=p2
    have p3:j+1<=s.size:=p3
    have bS:=HF.out.keep hR p2.near
    obtain⟨r1,r2⟩:=bS.rows (by rw[HN.out.1];omega) (by rw[HN.out.2];omega)
    exact .inl ⟨ns,ks,j+1,na,nc,ka,kc,ln,HE.out,by rw[<- HG.out];exact qsI p1,by omega,p3,by omega,rfl,r1,r2,HS.out.trans p2⟩
   clear p1 p2 p3 HC HF HS HG
   go_wp2_with fail
   go_ret2
   exact HP.out
  ·have p1:eatP [125] (s.data.toList.drop j)=none:=p1
   have aK:aA (RTree R m w w1 ns ks (.slice na ln nc) (.slice ka ln kc)):=HF.out.keep hR p2.near
   have aI:aA (Scan R w w1 j):=HS.out.trans p2
   clear HF HS HC p2
   have bA:aA (∀ W,qfX m s i=none->Near R w W->xdL R s i m w (.panicked refusal) W):=fun W h1 h2=>.inr ⟨.inr ⟨HE.out,h1⟩,rfl,h2⟩
   rcases Nat.eq_zero_or_pos ln with h0|h0
   case' inl=>
    obtain⟨j1,aG⟩:∃ j1,j1=j:=⟨_,rfl⟩
    have HQ:aA (formR (qaH m) fuel ns ks (s.data.toList.drop j1)=qfX m s i):=by
     show _=_
     rw[aG,<- HG.out];exact (qmK p1 (by rw[HN.out.1];exact h0)).symm
    have aL:aA (Scan R w w1 j1):=by rw[aG];exact aI
    have aM:j1<=s.size:=by omega
    have bT:j<=j1:=by omega
    have hd:(0<ln)=False:=eq_false (by omega)
    clear h0 aI HG aG p1
    go_wp2_with fail
    clear hd
   case' inr=>
    have HC:aA (Calls Tryz.prog 157 #[.pointer (some ⟨R,0,none⟩),.string ⟨#[44]⟩] w1 _):=qcY w1 R s ⟨#[44]⟩ j (aI.out.sc aB.out) hs (by decide) hj
    have hd:0<ln:=h0
    go_wp2_with fail
    refine HC.out.mono ?_
    rintro e w1 (⟨q1,rfl,q2,q3⟩|⟨q1,rfl,q2⟩)
    case inr=>
     refine⟨rfl,bA.out w1 ?_ (aI.out.near.trans q2)⟩
     rw[<- HG.out];exact qoO p1 (by rw[HN.out.1];omega) q1
    obtain⟨j1,aG⟩:∃ j1,j1=j+1:=⟨_,rfl⟩
    have q2:Scan R _ w1 (j+1):=q2
    have q3:j+1<=s.size:=q3
    have HQ:aA (formR (qaH m) fuel ns ks (s.data.toList.drop j1)=qfX m s i):=by
     show _=_
     rw[aG,<- HG.out];exact (qoN p1 (by rw[HN.out.1];omega) q1).symm
    have aL:aA (Scan R w w1 j1):=by rw[aG];exact aI.out.trans q2
    have aM:j1<=s.size:=by omega
    have bT:j<=j1:=by omega
    have bG:=aK.out.keep hR q2.near
    clear aK
    have aK:aA (RTree R m w w1 ns ks (.slice na ln nc) (.slice ka ln kc)):=bG
    clear bG aI HG aG p1 q1 q2 q3 h0 HC
    go_wp2_with fail
    clear hd
   all_goals
    have HU:aA (Calls Tryz.prog 158 #[.pointer (some ⟨R,0,none⟩),.int .u8 58] w1 (qjB 58 w1 R s j1)):=qmH 58 w1 R s j1 (aL.out.sc aB.out) hs aM
    refine HU.out.mono ?_
    rintro e w2 (⟨x,u1,rfl,u2,u3⟩|⟨u1,rfl,u2⟩)
    case inr=>exact⟨rfl,bA.out w2 (by rw[<- HQ.out];exact qwN u1) (aL.out.near.trans u2)⟩
    have u2:Scan R w1 w2 (j1+x.length):=u2
    have bU:(bs x).size<=10000:=by rw[qaJ];omega
    have aT:aA (RTree R m w w2 ns ks (.slice na ln nc) (.slice ka ln kc)):=aK.out.keep hR u2.near
    have bH:aA (Scan R w w2 (j1+x.length)):=aL.out.trans u2
    have aU:aA (qbS 58 (s.data.toList.drop j1)=some (x,s.data.toList.drop (j1+x.length))):=u1
    have HO:aA (w2.ownsRow w.heap.size 9 1 (.slice na ln nc) ln (ns.map .string)):=by
     have:=aT.out.names
     rw[HN.out.1]at this;exact this
    have bZ:=aT.out.near.size
    obtain⟨is0,aN,aO,aP,aQ⟩:=info_parts Tryz.info_strQ
    have aV:aA (_/\_/\_/\_):=⟨aN,aO,aP,aQ⟩
    clear aN aO aP aQ u1 u2 aK aL HU
    go_wp2_with (at_builtin;refine wpList_append_lies _ rfl (.tmp 16) (.tmp 19) 22 rfl w.heap.size 9 is0 _ 1 16 Tryz.underlying22 aV.out.1 aV.out.2.1 aV.out.2.2.1 aV.out.2.2.2 rfl (by decide) (.slice na ln nc) ln (ns.map .string) rfl (HO.out.alloc _) ⟨w2.heap.size,0,none⟩ 1 1 [.string (bs x)] rfl rfl (World.news_of_block (heap_alloc_new w2 _)) (by simp[Value.oneCell']) (by decide) (by unfold maxLen;omega) (by omega) (by simp;omega) (w2.heap.size+1) (by simp) ?_;intro g cap w3 aE aC aR bE;refine aA.out ?_)
    refine Lib.hid ?_
    obtain⟨aY,bP,bX⟩:=aT.out.name (Wa:=w2.alloc (.cells #[.string (bs x)] 9)) (one:=.cells #[.string (bs x)] 9) (x:=bs x) (g:=g) (cap:=cap) rfl ⟨rfl,rfl,rfl⟩ bU (by rw[HN.out.1];exact aE) aC aR
    rw[HN.out.1]at aY
    have bI:aA (RTree R m w w3 (ns++[bs x]) ks (.slice (some ⟨g,0,none⟩) (ln+1) cap) (.slice ka ln kc)):=aY
    have bB:aA (Scan R w w3 (j1+x.length)):=bH.out.same aY.near (bP R hR)
    have bJ:aA (Calls Tryz.prog 157 #[.pointer (some ⟨R,0,none⟩),.string ⟨#[58]⟩] w3 _):=qcY w3 R s ⟨#[58]⟩ (j1+x.length) (bB.out.sc aB.out) hs (by decide) (by omega)
    clear aY bP bX aE aC aR bE HO aT bH
    go_wp2_with fail
    refine bJ.out.mono ?_
    rintro e w4 (⟨v1,rfl,v2,v3⟩|⟨v1,rfl,v2⟩)
    case inr=>
     have v1:eatP [58] (s.data.toList.drop (j1+x.length))=none:=v1
     obtain⟨r',e1,-⟩:=qdM aU.out
     rw[e1,qaE]at v1
     cases v1
    have v2:Scan R w3 w4 (j1+x.length+1):=v2
    have v3:j1+x.length+1<=s.size:=v3
    have bC:=bI.out.keep hR v2.near
    have bD:aA (RTree R m w w4 (ns++[bs x]) ks (.slice (some ⟨g,0,none⟩) (ln+1) cap) (.slice ka ln kc)):=bC
    have aJ:aA (Scan R w w4 (j1+x.length+1)):=bB.out.trans v2
    have HK:aA (Calls Tryz.prog 133 #[.pointer (some ⟨R,0,none⟩)] w4 (TRPost R s (j1+x.length+1) m w4)):=HM.out.1 B R s _ w4 (HM.out.2.1.near aJ.out.near hBR hR) hBR (aJ.out.sc aB.out) (HM.out.2.2.scan aJ.out) v3 hs (by omega)
    obtain⟨xs,aH,bQ⟩:=bC.kids
    have bK:aA (∀ q (h:q<ks.length),_):=bQ
    have aW:aA (w4.ownsRow w.heap.size 133 1 (.slice ka ln kc) ln xs):=by
     rw[HN.out.2]at aH;exact aH
    clear v1 v2 bC aH bQ bI bB bJ
    go_wp2_with fail
    refine HK.out.mono ?_
    rintro e w5 (⟨t,q,c,y1,y2,y3,rfl,y4,y5⟩|⟨y1,rfl,y2⟩)
    case inr=>
     refine⟨rfl,bA.out w5 ?_ (aJ.out.near.trans y2)⟩
     rw[<- HQ.out]
     refine qsJ aU.out ?_
     rw[List.drop_drop];exact y1
    obtain⟨zt,zx,rfl⟩:=id y4.iface
    have cA:=y5.near.size
    have cB:=bD.out.near.size
    have bL:aA (w5.ownsRow w.heap.size 133 1 (.slice ka ln kc) ln xs):=qbG aW.out (fun g' hg'=>by
     have:=r1_lt aW.out g' hg'
     exact y5.near.block g' this.2 (by omega))
    have HY:aA (InnerT (fun b=>w4.heap.size<=b/\b<w5.heap.size) w5 m t (.iface zt zx)/\Scan R w4 w5 q):=⟨y4,y5⟩
    have bV:aA (formQ (qaH m) fuel (ns++[bs x]) (ks++[t]) (s.data.toList.drop q)=qfX m s i):=by
     show _=_
     rw[<- HQ.out]
     refine (qsK aU.out ?_).symm
     rw[List.drop_drop];exact y1
    obtain⟨ik0,aN,aO,aP,aQ⟩:=info_parts Tryz.info_anyQ
    have aX:aA (_/\_/\_/\_):=⟨aN,aO,aP,aQ⟩
    clear aN aO aP aQ y1 y4 y5 HK HQ aU
    go_wp2_with (at_builtin;refine wpList_append_lies _ rfl (.tmp 23) (.tmp 26) 169 rfl w.heap.size 133 ik0 _ 1 16 Tryz.underlying169 aX.out.1 aX.out.2.1 aX.out.2.2.1 aX.out.2.2.2 rfl (by decide) (.slice ka ln kc) ln xs rfl (bL.out.alloc _) ⟨w5.heap.size,0,none⟩ 1 1 [.iface zt zx] rfl rfl (World.news_of_block (heap_alloc_new w5 _)) (by simp[Value.oneCell']) (by decide) (by unfold maxLen;omega) (by omega) (by simp;omega) (w5.heap.size+1) (by simp) ?_;intro g2 cap2 w6 aF aD aS bF;refine aA.out ?_)
    refine Lib.hid ?_
    obtain⟨aZ,bR,bY⟩:=bD.out.kid (W1:=w5) (Wa:=w5.alloc (.cells #[.iface zt zx] 133)) (one:=.cells #[.iface zt zx] 133) (g:=g2) (cap:=cap2) hR HY.out.2.near HY.out.1 rfl ⟨rfl,rfl,rfl⟩ (by rw[HN.out.2];exact aW.out) bK.out (by rw[HN.out.2];exact aF) aD aS
    rw[HN.out.2]at aZ
    have bW:aA (RTree R m w w6 (ns++[bs x]) (ks++[t]) (.slice (some ⟨g,0,none⟩) (ln+1) cap) (.slice (some ⟨g2,0,none⟩) (ln+1) cap2)):=aZ
    have bM:aA (Scan R w w6 q):=(aJ.out.trans HY.out.2).same aZ.near (bR R hR)
    obtain⟨f',rfl⟩:∃ f',fuel=f'+1:=⟨fuel - 1,by omega⟩
    clear aZ bR bY aF aD aS bF bL aW bK bD aJ HY
    go_wp2_with fail
    go_roundw
    case rel=>exact⟨ns++[bs x],ks++[t],q,f',ln+1,some ⟨g,0,none⟩,cap,some ⟨g2,0,none⟩,cap2,by simp[HN.out.1],by simp[HN.out.2],by omega,rfl,rfl,bW.out,bM.out,by omega,y3,bV.out,by omega⟩
    case measure=>rw[bM.out.atS,HA.out];omega
theorem xdM (m:Nat) (hm:qgY m) (B R:Nat) (s:ByteArray) (i:Nat) (w:World) (hL:LaidU B w) (hBR:B<=R) (h:Sc w R s i) (hMe:Meth w R) (hi:i<=s.size) (hs:s.size<=10000) (hlt:s.size - i<=m) (hc:(s.data.toList.drop i).headD 0=123) :
  Calls Tryz.prog 132 #[.pointer (some ⟨R,0,none⟩)] w (TRPost R s i (m+1) w):=by
 have aA:Hid ((qfX m s i=none->qaH (m+1) (s.data.toList.drop i)=none)/\(∀ ns ks r,qfX m s i=some (ns,ks,r)->qaH (m+1) (s.data.toList.drop i)=some ((⟨5,0,ByteArray.empty,ns,ks⟩:Nd (T m)),r))):=by
  have:=xjB (m:=m) hc
  rw[List.drop_drop]at this
  exact this
 have HE:Hid (eatP [123] (s.data.toList.drop i)=some ((s.data.toList.drop i).drop 1)):=qjI hc (by decide)
 have HC:Hid (Calls Tryz.prog 159 _ _ _):=qqD m hm B R s i w hL hBR h hMe hi hs hlt
 have aB:∀ (fn:Fn) (first cap:Array Value) (w:World),(Instr.makeFunc fn first cap).run Tryz.prog w=.ok (.func fn first cap) w:=fun _ _ _ _=>rfl
 clear h hm hL hMe hc
 go_enter Tryz.func132,Tryz.ntmps132
 go_wp2_with fail
 refine HC.out.mono ?_
 rintro e w1 (⟨ns,ks,q,na,nc,ka,kc,ln,-,y1,y2,y3,-,rfl,y4,y5,y6⟩|⟨y1,rfl,y2⟩)
 case inr=>
  refine⟨rfl,.inr ⟨?_,rfl,y2⟩⟩
  rcases y1 with y1|⟨-,y1⟩
  ·rw[HE.out]at y1;cases y1
  ·exact aA.out.1 y1
 have HF:Hid (TRPost R s i (m+1) w (.returned (.iface 173 (.agg #[.slice na ln nc,.slice ka ln kc]))) w1):=
  .inl ⟨_,q,_,aA.out.2 ns ks _ y1,y2,y3,rfl,.inr (.inr (.inr (.inr (.inl ⟨rfl,_,_,rfl,y4,y5⟩)))),y6⟩
 clear y1 y4 y5 y6 HC
 go_wp2_with fail
 go_ret
 exact HF.out
end Go.Proofs.YtelogmjfekhmpaaGreatDoor
