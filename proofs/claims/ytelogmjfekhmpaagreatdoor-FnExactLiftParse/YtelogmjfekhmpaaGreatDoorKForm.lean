import Derived.Test.YtelogmjfekhmpaaGreatDoorKForm0
import Derived.Lib.Hide
import Derived.WalkSmall
import Derived.LoopTactic
namespace Go.Proofs.YtelogmjfekhmpaaGreatDoor
set_option maxRecDepth 100000
set_option maxHeartbeats 16000000
open Go.RowKit
def formR {α:Type} (f:List UInt8->Option (α × List UInt8)) (k:Nat) (ns:List ByteArray) (acc:List α) (s1:List UInt8):Option (List ByteArray × List α × List UInt8):=
 match qbS 58 s1 with
 | none=>none
 | some (w,s2)=>
  match f (s2.drop 1) with
  | none=>none
  | some (t,r)=>formQ f k (ns++[bs w]) (acc++[t]) r
theorem qsI {α:Type} {f:List UInt8->Option (α × List UInt8)} {k:Nat} {ns:List ByteArray} {acc:List α} {s r:List UInt8} (h:eatP [125] s=some r):formQ f (k+1) ns acc s=some (ns,acc,r):=by
 rw[formQ,h]
theorem qmK {α:Type} {f:List UInt8->Option (α × List UInt8)} {k:Nat} {ns:List ByteArray} {acc:List α} {s:List UInt8} (h:eatP [125] s=none) (h0:ns.length=0):formQ f (k+1) ns acc s=formR f k ns acc s:=by
 rw[formQ,h];simp only[h0,if_true];rfl
theorem qoN {α:Type} {f:List UInt8->Option (α × List UInt8)} {k:Nat} {ns:List ByteArray} {acc:List α} {s s1:List UInt8} (h:eatP [125] s=none) (h0:¬ ns.length=0) (h1:eatP [44] s=some s1):formQ f (k+1) ns acc s=formR f k ns acc s1:=by
 rw[formQ,h];simp only[if_neg h0,h1];rfl
theorem qoO {α:Type} {f:List UInt8->Option (α × List UInt8)} {k:Nat} {ns:List ByteArray} {acc:List α} {s:List UInt8} (h:eatP [125] s=none) (h0:¬ ns.length=0) (h1:eatP [44] s=none):formQ f (k+1) ns acc s=none:=by
 rw[formQ,h];simp only[if_neg h0,h1]
theorem qwN {α:Type} {f:List UInt8->Option (α × List UInt8)} {k:Nat} {ns:List ByteArray} {acc:List α} {s:List UInt8} (h:qbS 58 s=none):formR f k ns acc s=none:=by
 rw[formR,h]
theorem qsJ {α:Type} {f:List UInt8->Option (α × List UInt8)} {k:Nat} {ns:List ByteArray} {acc:List α} {s w s2:List UInt8} (h:qbS 58 s=some (w,s2)) (h1:f (s2.drop 1)=none):formR f k ns acc s=none:=by
 rw[formR,h];simp only[h1]
theorem qsK {α:Type} {f:List UInt8->Option (α × List UInt8)} {k:Nat} {ns:List ByteArray} {acc:List α} {s w s2 r:List UInt8} {t:α} (h:qbS 58 s=some (w,s2)) (h1:f (s2.drop 1)=some (t,r)):formR f k ns acc s=formQ f k (ns++[bs w]) (acc++[t]) r:=by
 rw[formR,h];simp only[h1]
def qgQ (R:Nat) (s:ByteArray) (i m:Nat) (w:World) (e:Ending) (w':World):Prop:=
 (∃ (k:K m) (q:Nat) (c0 c1 c2:Value),qaM m (s.data.toList.drop i)=some (k,s.data.toList.drop q)/\i<q/\q<=s.size/\e=.returned (.agg #[c0,c1,c2])/\KindIn (fun b=>w.heap.size<=b/\b<w'.heap.size) w' m k c0 c1 c2/\Scan R w w' q) ∨
  (qaM m (s.data.toList.drop i)=none/\e=.panicked refusal/\Near R w w')
def qoP (m:Nat):Prop:=∀ (R:Nat) (s:ByteArray) (i:Nat) (w:World),Sc w R s i->i<=s.size->s.size<=10000->s.size - i<m ->
 Calls Tryz.prog 143 #[.pointer (some ⟨R,0,none⟩)] w (qgQ R s i m w)
def qkU (m:Nat) (s:ByteArray) (i:Nat):Option (List ByteArray × List (K m) × List UInt8):=formQ (qaM m) ((s.data.toList.drop (i+1)).length+1) [] [] (s.data.toList.drop (i+1))
def qwO (R:Nat) (s:ByteArray) (i m:Nat) (w:World) (e:Ending) (w':World):Prop:=
 (∃ (ns:List ByteArray) (ks:List (K m)) (q:Nat) (na:Option Addr) (nc:Nat) (ka:Option Addr) (kc ln:Nat),eatP [123] (s.data.toList.drop i)=some (s.data.toList.drop (i+1))/\qkU m s i=some (ns,ks,s.data.toList.drop q)/\i<q/\q<=s.size/\ln<=10000 /\
  e=.returned (.tuple #[.slice na ln nc,.slice ka ln kc])/\StrsIn (fun b=>w.heap.size<=b/\b<w'.heap.size) w' ns (.slice na ln nc) /\
  RowIn3 (fun b=>w.heap.size<=b/\b<w'.heap.size) w' (KindIn (fun b=>w.heap.size<=b/\b<w'.heap.size) w' m) ks (.slice ka ln kc)/\Scan R w w' q) ∨
  ((eatP [123] (s.data.toList.drop i)=none∨(eatP [123] (s.data.toList.drop i)=some (s.data.toList.drop (i+1))/\qkU m s i=none))/\e=.panicked refusal/\Near R w w')
theorem Scan.same {R:Nat} {a b c:World} {q:Nat} (h:Scan R a b q) (hn:Near R a c) (hb:c.heap[R]?=b.heap[R]?):Scan R a c q:=
 ⟨hn,fun o ho=>(World.cell?_of_block (w:=b) (w':=c) (a:=⟨R,o,none⟩) hb).trans (h.cells o ho),(World.cell?_of_block (w:=b) (w':=c) (a:=⟨R,1,none⟩) hb).trans h.at1,fun o=>by
  have:=h.fz o
  simp only[World.frozen?,hb]at this ⊢
  exact this⟩
def atS (w:World) (R:Nat):Nat:=match w.cell? ⟨R,1,none⟩ with|some (.int _ n)=>n.toNat|_=>0
theorem Scan.atS {R:Nat} {a b:World} {q:Nat} (h:Scan R a b q):atS b R=q:=by
 unfold Go.Proofs.YtelogmjfekhmpaaGreatDoor.atS;rw[h.at1];simp
theorem Tryz.info_strQ:(Tryz.prog.info? 9).map (fun i=>(i.zero,i.size,i.bytes))=some (some (.string ⟨#[]⟩),1,16):=by kernel_rfl
theorem Tryz.info_kindQ:(Tryz.prog.info? 55).map (fun i=>(i.zero,i.size,i.bytes))=some (some (.agg #[.int .i64 0,.slice none 0 0,.slice none 0 0]),3,56):=by kernel_rfl
theorem qsL (m:Nat) (hm:qoP m) (R:Nat) (s:ByteArray) (i:Nat) (w:World) (h:Sc w R s i) (hi:i<=s.size) (hs:s.size<=10000) (hlt:s.size - i<=m) :
  Calls Tryz.prog 169 #[.pointer (some ⟨R,0,none⟩),.func (.func 143) #[.pointer (some ⟨R,0,none⟩)] #[]] w (qwO R s i m w):=by
 have HW:aA (Calls Tryz.prog 157 #[.pointer (some ⟨R,0,none⟩),.string ⟨#[123]⟩] w _):=qcY w R s ⟨#[123]⟩ i h hs (by decide) hi
 have hR:=h.lt
 have HM:aA (qoP m):=hm
 have aB:aA (Sc w R s i):=h
 clear h hm
 go_enter Tryz.func169,Tryz.ntmps169
 go_wp2_with fail
 refine HW.out.mono ?_
 rintro e w1 (⟨h1,rfl,h2,h3⟩|⟨h1,rfl,h2⟩)
 case inr=>exact⟨rfl,.inr ⟨.inl h1,rfl,h2⟩⟩
 have HE:aA (eatP [123] (s.data.toList.drop i)=some (s.data.toList.drop (i+1))):=h1
 have h2:Scan R w w1 (i+1):=h2
 have h3:i+1<=s.size:=h3
 clear h1 HW
 go_wp2_with fail
 go_loopw [4,5] (fun nv kv wr=>∃ (ns:List ByteArray) (ks:List (K m)) (j fuel ln:Nat) (na:Option Addr) (nc:Nat) (ka:Option Addr) (kc:Nat),ns.length=ln/\ks.length=ln/\ln<=j/\nv=.slice na ln nc/\kv=.slice ka ln kc/\RForm R m w wr ns ks (.slice na ln nc) (.slice ka ln kc)/\Scan R w wr j/\i<j/\j<=s.size /\
   formQ (qaM m) (fuel+1) ns ks (s.data.toList.drop j)=qkU m s i/\s.size - j<=fuel) (fun _ _ wr=>s.size - atS wr R)
 case atStart=>exact⟨[],[],i+1,(s.data.toList.drop (i+1)).length,0,none,0,none,0,rfl,rfl,by omega,rfl,rfl,RForm.start R m w w1 h2.near,h2,by omega,h3,rfl,by simp⟩
 case round=>
  obtain⟨ns,ks,j,fuel,ln,na,nc,ka,kc,bN,bO,cC,rfl,rfl,hF,hS,cD,hj,hG,cE⟩:=hrel
  have HN:aA (ns.length=ln/\ks.length=ln):=⟨bN,bO⟩
  have HF:aA (RForm R m w wr ns ks (.slice na ln nc) (.slice ka ln kc)):=hF
  have HS:aA (Scan R w wr j):=hS
  have HG:aA (formQ (qaM m) (fuel+1) ns ks (s.data.toList.drop j)=qkU m s i):=hG
  have HA:aA (atS wr R=j):=hS.atS
  have HC:aA (Calls Tryz.prog 155 #[.pointer (some ⟨R,0,none⟩),.string ⟨#[125]⟩] wr _):=qdJ wr R s ⟨#[125]⟩ j (hS.sc aB.out) hs (by decide) hj
  clear bN bO hF hS hG h2 h3
  go_wp2_with fail
  refine HC.out.mono ?_
  rintro e w1 (⟨p1,rfl,p2,p3⟩|⟨p1,rfl,p2⟩)
  ·have HP:aA (qwO R s i m w (.returned (.tuple #[.slice na ln nc,.slice ka ln kc])) w1):=by
    have p2:Scan R wr w1 (j+1):=p2
    have p3:j+1<=s.size:=p3
    have bS:=HF.out.keep hR p2.near
    obtain⟨r1,r2⟩:=bS.rows (by rw[HN.out.1];omega) (by rw[HN.out.2];omega)
    exact .inl ⟨ns,ks,j+1,na,nc,ka,kc,ln,HE.out,by rw[<- HG.out];exact qsI p1,by omega,p3,by omega,rfl,r1,r2,HS.out.trans p2⟩
   clear p1 p2 p3 HC HF HS HG
   go_wp2_with fail
   go_ret2
   exact HP.out
  ·have p1:eatP [125] (s.data.toList.drop j)=none:=p1
   have aJ:aA (RForm R m w w1 ns ks (.slice na ln nc) (.slice ka ln kc)):=HF.out.keep hR p2.near
   have aI:aA (Scan R w w1 j):=HS.out.trans p2
   clear HF HS HC p2
   have bA:aA (∀ W,qkU m s i=none->Near R w W->qwO R s i m w (.panicked refusal) W):=fun W h1 h2=>.inr ⟨.inr ⟨HE.out,h1⟩,rfl,h2⟩
   rcases Nat.eq_zero_or_pos ln with h0|h0
   case' inl=>
    obtain⟨j1,aG⟩:∃ j1,j1=j:=⟨_,rfl⟩
    have HQ:aA (formR (qaM m) fuel ns ks (s.data.toList.drop j1)=qkU m s i):=by
     show _=_
     rw[aG,<- HG.out];exact (qmK p1 (by rw[HN.out.1];exact h0)).symm
    have aK:aA (Scan R w w1 j1):=by rw[aG];exact aI
    have aL:j1<=s.size:=by omega
    have bT:j<=j1:=by omega
    have hd:(0<ln)=False:=eq_false (by omega)
    clear h0 aI HG aG p1
    go_wp2_with fail
    clear hd
   case' inr=>
    have HC:aA (Calls Tryz.prog 157 #[.pointer (some ⟨R,0,none⟩),.string ⟨#[44]⟩] w1 _):=qcY w1 R s ⟨#[44]⟩ j (aI.out.sc aB.out) hs (by decide) hj
    have hd:0<ln:=h0
    go_wp2_with fail
    refine HC.out.mono ?_
    rintro e w1 (⟨q1,rfl,q2,q3⟩|⟨q1,rfl,q2⟩)
    case inr=>
     refine⟨rfl,bA.out w1 ?_ (aI.out.near.trans q2)⟩
     rw[<- HG.out];exact qoO p1 (by rw[HN.out.1];omega) q1
    obtain⟨j1,aG⟩:∃ j1,j1=j+1:=⟨_,rfl⟩
    have q2:Scan R _ w1 (j+1):=q2
    have q3:j+1<=s.size:=q3
    have HQ:aA (formR (qaM m) fuel ns ks (s.data.toList.drop j1)=qkU m s i):=by
     show _=_
     rw[aG,<- HG.out];exact (qoN p1 (by rw[HN.out.1];omega) q1).symm
    have aK:aA (Scan R w w1 j1):=by rw[aG];exact aI.out.trans q2
    have aL:j1<=s.size:=by omega
    have bT:j<=j1:=by omega
    have bG:=aJ.out.keep hR q2.near
    clear aJ
    have aJ:aA (RForm R m w w1 ns ks (.slice na ln nc) (.slice ka ln kc)):=bG
    clear bG aI HG aG p1 q1 q2 q3 h0 HC
    go_wp2_with fail
    clear hd
   all_goals
    have HU:aA (Calls Tryz.prog 158 #[.pointer (some ⟨R,0,none⟩),.int .u8 58] w1 (qjB 58 w1 R s j1)):=qmH 58 w1 R s j1 (aK.out.sc aB.out) hs aL
    refine HU.out.mono ?_
    rintro e w2 (⟨x,u1,rfl,u2,u3⟩|⟨u1,rfl,u2⟩)
    case inr=>exact⟨rfl,bA.out w2 (by rw[<- HQ.out];exact qwN u1) (aK.out.near.trans u2)⟩
    have u2:Scan R w1 w2 (j1+x.length):=u2
    have bU:(bs x).size<=10000:=by rw[qaJ];omega
    have aS:aA (RForm R m w w2 ns ks (.slice na ln nc) (.slice ka ln kc)):=aJ.out.keep hR u2.near
    have bH:aA (Scan R w w2 (j1+x.length)):=aK.out.trans u2
    have aT:aA (qbS 58 (s.data.toList.drop j1)=some (x,s.data.toList.drop (j1+x.length))):=u1
    have HO:aA (w2.ownsRow w.heap.size 9 1 (.slice na ln nc) ln (ns.map .string)):=by
     have:=aS.out.names
     rw[HN.out.1]at this;exact this
    have bZ:=aS.out.near.size
    obtain⟨is0,aM,aN,aO,aP⟩:=info_parts Tryz.info_strQ
    have aU:aA (_/\_/\_/\_):=⟨aM,aN,aO,aP⟩
    clear aM aN aO aP u1 u2 aJ aK HU
    go_wp2_with (at_builtin;refine wpList_append_lies _ rfl (.tmp 16) (.tmp 19) 22 rfl w.heap.size 9 is0 _ 1 16 Tryz.underlying22 aU.out.1 aU.out.2.1 aU.out.2.2.1 aU.out.2.2.2 rfl (by decide) (.slice na ln nc) ln (ns.map .string) rfl (HO.out.alloc _) ⟨w2.heap.size,0,none⟩ 1 1 [.string (bs x)] rfl rfl (World.news_of_block (heap_alloc_new w2 _)) (by simp[Value.oneCell']) (by decide) (by unfold maxLen;omega) (by omega) (by simp;omega) (w2.heap.size+1) (by simp) ?_;intro g cap w3 aE aC aQ bE;refine aA.out ?_)
    refine Lib.hid ?_
    obtain⟨aY,bP,bX⟩:=aS.out.name (Wa:=w2.alloc (.cells #[.string (bs x)] 9)) (one:=.cells #[.string (bs x)] 9) (x:=bs x) (g:=g) (cap:=cap) rfl ⟨rfl,rfl,rfl⟩ bU (by rw[HN.out.1];exact aE) aC aQ
    rw[HN.out.1]at aY
    have bI:aA (RForm R m w w3 (ns++[bs x]) ks (.slice (some ⟨g,0,none⟩) (ln+1) cap) (.slice ka ln kc)):=aY
    have bB:aA (Scan R w w3 (j1+x.length)):=bH.out.same aY.near (bP R hR)
    have bJ:aA (Calls Tryz.prog 157 #[.pointer (some ⟨R,0,none⟩),.string ⟨#[58]⟩] w3 _):=qcY w3 R s ⟨#[58]⟩ (j1+x.length) (bB.out.sc aB.out) hs (by decide) (by omega)
    clear aY bP bX aE aC aQ bE HO aS bH
    go_wp2_with fail
    refine bJ.out.mono ?_
    rintro e w4 (⟨v1,rfl,v2,v3⟩|⟨v1,rfl,v2⟩)
    case inr=>
     have v1:eatP [58] (s.data.toList.drop (j1+x.length))=none:=v1
     obtain⟨r',e1,-⟩:=qdM aT.out
     rw[e1,qaE]at v1
     cases v1
    have v2:Scan R w3 w4 (j1+x.length+1):=v2
    have v3:j1+x.length+1<=s.size:=v3
    have bC:=bI.out.keep hR v2.near
    have bD:aA (RForm R m w w4 (ns++[bs x]) ks (.slice (some ⟨g,0,none⟩) (ln+1) cap) (.slice ka ln kc)):=bC
    have aV:aA (Scan R w w4 (j1+x.length+1)):=bB.out.trans v2
    have HK:aA (Calls Tryz.prog 143 #[.pointer (some ⟨R,0,none⟩)] w4 (qgQ R s (j1+x.length+1) m w4)):=HM.out R s _ w4 (aV.out.sc aB.out) v3 hs (by omega)
    obtain⟨xs,aH,bQ⟩:=bC.kids
    have bK:aA (∀ q (h:q<ks.length),_):=bQ
    have aW:aA (w4.ownsRow w.heap.size 55 3 (.slice ka ln kc) ln xs):=by
     rw[HN.out.2]at aH;exact aH
    clear v1 v2 bC aH bQ bI bB bJ
    go_wp2_with fail
    refine HK.out.mono ?_
    rintro e w5 (⟨t,q,c0,c1,c2,y1,y2,y3,rfl,y4,y5⟩|⟨y1,rfl,y2⟩)
    case inr=>
     refine⟨rfl,bA.out w5 ?_ (aV.out.near.trans y2)⟩
     rw[<- HQ.out]
     refine qsJ aT.out ?_
     rw[List.drop_drop];exact y1
    obtain⟨z0,za,zl,zc,ua,ul,uc,rfl,rfl,rfl⟩:=y4.shape
    have cA:=y5.near.size
    have cB:=bD.out.near.size
    have bL:aA (w5.ownsRow w.heap.size 55 3 (.slice ka ln kc) ln xs):=qbG aW.out (fun g' hg'=>by
     have:=r1_lt aW.out g' hg'
     exact y5.near.block g' this.2 (by omega))
    have HY:aA (KindIn (fun b=>w4.heap.size<=b/\b<w5.heap.size) w5 m t (.int .i64 z0) (.slice za zl zc) (.slice ua ul uc)/\Scan R w4 w5 q):=⟨y4,y5⟩
    have bV:aA (formQ (qaM m) fuel (ns++[bs x]) (ks++[t]) (s.data.toList.drop q)=qkU m s i):=by
     show _=_
     rw[<- HQ.out]
     refine (qsK aT.out ?_).symm
     rw[List.drop_drop];exact y1
    obtain⟨ik0,aM,aN,aO,aP⟩:=info_parts Tryz.info_kindQ
    have aX:aA (_/\_/\_/\_):=⟨aM,aN,aO,aP⟩
    clear aM aN aO aP y1 y4 y5 HK HQ aT
    go_wp2_with (at_builtin;refine wpList_append_lies _ rfl (.tmp 23) (.tmp 26) 53 rfl w.heap.size 55 ik0 _ 3 56 Tryz.underlying53 aX.out.1 aX.out.2.1 aX.out.2.2.1 aX.out.2.2.2 rfl (by decide) (.slice ka ln kc) ln xs rfl (bL.out.alloc _) ⟨w5.heap.size,0,none⟩ 1 1 [.int .i64 z0,.slice za zl zc,.slice ua ul uc] rfl rfl (World.news_of_block (heap_alloc_new w5 _)) (by simp[Value.oneCell']) (by decide) (by unfold maxLen;omega) (by omega) (by simp;omega) (w5.heap.size+1) (by simp) ?_;intro g2 cap2 w6 aF aD aR bF;refine aA.out ?_)
    refine Lib.hid ?_
    obtain⟨aZ,bR,bY⟩:=bD.out.kid (W1:=w5) (Wa:=w5.alloc (.cells #[.int .i64 z0,.slice za zl zc,.slice ua ul uc] 55)) (one:=.cells #[.int .i64 z0,.slice za zl zc,.slice ua ul uc] 55) (g:=g2) (cap:=cap2) hR HY.out.2.near HY.out.1 rfl ⟨rfl,rfl,rfl⟩ (by rw[HN.out.2];exact aW.out) bK.out (by rw[HN.out.2];exact aF) aD aR
    rw[HN.out.2]at aZ
    have bW:aA (RForm R m w w6 (ns++[bs x]) (ks++[t]) (.slice (some ⟨g,0,none⟩) (ln+1) cap) (.slice (some ⟨g2,0,none⟩) (ln+1) cap2)):=aZ
    have bM:aA (Scan R w w6 q):=(aV.out.trans HY.out.2).same aZ.near (bR R hR)
    obtain⟨f',rfl⟩:∃ f',fuel=f'+1:=⟨fuel - 1,by omega⟩
    clear aZ bR bY aF aD aR bF bL aW bK bD aV HY
    go_wp2_with fail
    go_roundw
    case rel=>exact⟨ns++[bs x],ks++[t],q,f',ln+1,some ⟨g,0,none⟩,cap,some ⟨g2,0,none⟩,cap2,by simp[HN.out.1],by simp[HN.out.2],by omega,rfl,rfl,bW.out,bM.out,by omega,y3,bV.out,by omega⟩
    case measure=>rw[bM.out.atS,HA.out];omega
end Go.Proofs.YtelogmjfekhmpaaGreatDoor
