import Derived.Test.YtelogmjfekhmpaaGreatDoorQW1
import Derived.Test.YtelogmjfekhmpaaGreatDoorNear
import Derived.Lib.Hide
namespace Go.Proofs.YtelogmjfekhmpaaGreatDoor
set_option maxRecDepth 100000
set_option maxHeartbeats 16000000
open Go.RowKit
structure WAt (s:ByteArray) (w wr:World) (pos:Nat):Prop where
 le:pos<=s.size
 iter:wr.heap[w.heap.size]?=some (.stringIter s pos)
 below:Below w.heap.size w wr
theorem WAt.next {s:ByteArray} {w wr:World} {pos:Nat} (h:WAt s w wr pos) (q:Nat) (hq:q<=s.size):WAt s w (wr.iterAt w.heap.size s q) q:=
 ⟨hq,Lib.iterAt_heap wr _ _ _ _ h.iter,Lib.below_iterAt h.below (Nat.le_refl _) _ _⟩
theorem WAt.on {s:ByteArray} {w wr w':World} {pos:Nat} (h:WAt s w wr pos) (hb:Below wr.heap.size wr w'):WAt s w w' pos:=
 ⟨h.le,(hb.block _ (Array.getElem?_eq_some_iff.1 h.iter).1).trans h.iter,h.below.trans (hb.mono h.below.size)⟩
theorem qnC (s:ByteArray) (w:World) (hs:s.size<=3000) (h0:0<s.size) (hq:(s[0]'h0).toNat=34) :
  Calls Tryz.prog 64 #[.string s] w fun e w'=>e=.returned (.int .i64 (qaW s.data.toList:Nat))/\Below w.heap.size w w':=by
 have aF:(((s[0]'h0).toNat:Int)==34)=true:=by rw[hq];rfl
 have HQ:=hidF hq
 have H0:Hid (WAt s w (w.iter s 0) 0):=⟨Nat.zero_le _,World.iter_heap _ _ _,(Below.refl _ _).alloc (Nat.le_refl _) _⟩
 clear hq
 go_enter Tryz.func64,Tryz.ntmps64
 go_wp2_with fail
 go_loopw [4] (fun _ wr=>∃ pos:Nat,WAt s w wr pos/\Hid (∀ j (h:j<s.size),1<=j->j<pos->(s[j]'h).toNat≠34)) (fun _ wr=>s.size - wr.iterPos w.heap.size)
 case atStart=>exact⟨0,H0.out,fun j _ _ h=>absurd h (Nat.not_lt_zero _)⟩
 case round=>
  obtain⟨pos,hA,HK⟩:=hrel
  clear H0
  have aA:=hA.iter
  have HI:Hid (wr.iterPos w.heap.size=pos):=iterPos_of aA
  have aE:=hA.le
  have HA:=Lib.hid hA
  by_cases hp:pos<s.size
  ·by_cases ha:(s[pos]'hp).toNat<128
   ·obtain⟨c,hc⟩:∃ c,(s[pos]'hp).toNat=c:=⟨_,rfl⟩
    have aD:∀ ty,(Instr.next (.pointer (some ⟨w.heap.size,0,none⟩)) true ty).run Tryz.prog wr=.ok (.tuple #[.bool true,.int .i64 (pos:Int),.int .i32 (c:Int)]) (wr.iterAt w.heap.size s (pos+1)):=fun ty=>by
     rw[Lib.run_next_ascii_at wr w.heap.size s pos ty aA hp ha,hc]
    have HN:=Lib.hid (hA.next (pos+1) hp)
    have aC:Hid ((wr.iterAt w.heap.size s (pos+1)).iterPos w.heap.size=pos+1):=iterPos_of (HN.out.iter)
    by_cases aB:c=34/\0<pos
    ·have b1:((c:Int)==34)=true:=by rw[aB.1];rfl
     have b2:(0:Int)<(pos:Int):=by omega
     have aG:IntKind.i64.wrap ((pos:Int)+1)=(pos:Int)+1:=by rw[IntKind.wrap_i64];omega
     have HF:Hid (qaW s.data.toList=pos+1):=by
      show _=_
      rw[qhU h0 HQ.out (k:=pos) (by omega) (by omega) HK.out (fun _=>by rw[hc];exact aB.1),if_pos hp]
     have HB:=Lib.hid HN.out.below
     clear hA HA aA HK ha hc aB HN HI aC HQ aE
     go_wp2_with fail
     go_ret
     exact⟨by rw[HF.out];rfl,HB.out⟩
    ·have HL:Hid (∀ j (h:j<s.size),1<=j->j<pos+1->(s[j]'h).toNat≠34):=fun j h h1 h2=>by
      rcases Nat.lt_or_ge j pos with h3|h3
      ·exact HK.out j h h1 h3
      ·have:j=pos:=by omega
       subst this
       rw[hc];intro e;exact aB ⟨e,by omega⟩
     by_cases h5:c=34
     ·have b1:((c:Int)==34)=true:=by rw[h5];rfl
      have b2:¬ (0:Int)<(pos:Int):=by omega
      clear hA HA aA HK ha hc aB h5
      go_wp2_with fail
      go_roundw
      case rel=>exact⟨pos+1,HN.out,HL.out⟩
      case measure=>rw[aC.out,HI.out];omega
     ·have b1:((c:Int)==34)=false:=by simp;omega
      clear hA HA aA HK ha hc aB h5
      go_wp2_with fail
      go_roundw
      case rel=>exact⟨pos+1,HN.out,HL.out⟩
      case measure=>rw[aC.out,HI.out];omega
   ·obtain⟨m1,m2,-⟩:=qnB s pos hp (by omega)
    obtain⟨d1,d2⟩:=decode_high s pos hp (by omega)
    obtain⟨r,d,hd⟩:∃ r d,Utf8.decode s pos=(r,d):=⟨_,_,rfl⟩
    have aD:∀ ty,(Instr.next (.pointer (some ⟨w.heap.size,0,none⟩)) true ty).run Tryz.prog wr=.ok (.tuple #[.bool true,.int .i64 (pos:Int),.int .i32 (r:Int)]) (wr.iterAt w.heap.size s (pos+d)):=fun ty=>by
     rw[Lib.run_next_any_at wr w.heap.size s pos ty aA hp,hd]
    rw[hd]at m1 m2 d1 d2
    dsimp only at m1 m2 d1 d2
    have HN:=Lib.hid (hA.next (pos+d) m1)
    have aC:Hid ((wr.iterAt w.heap.size s (pos+d)).iterPos w.heap.size=pos+d):=iterPos_of (HN.out.iter)
    have b1:((r:Int)==34)=false:=by simp;omega
    have HL:Hid (∀ j (h:j<s.size),1<=j->j<pos+d->(s[j]'h).toNat≠34):=fun j h h1 h2=>by
     rcases Nat.lt_or_ge j pos with h3|h3
     ·exact HK.out j h h1 h3
     ·have:=m2 j h h3 h2;omega
    have HD:Hid (1<=d/\pos+d<=s.size):=⟨d2,m1⟩
    clear hA HA aA HK ha m1 m2 d1 d2 hd
    go_wp2_with fail
    go_roundw
    case rel=>exact⟨pos+d,HN.out,HL.out⟩
    case measure=>have:=HD.out;rw[aC.out,HI.out];omega
  ·have aD:=fun ty=>Lib.run_next_end_at (P:=Tryz.prog) wr w.heap.size s pos ty aA hp
   have HF:Hid (qaW s.data.toList=s.size):=by
    show _=_
    have aH:pos=s.size:=by omega
    rw[qhU h0 HQ.out (k:=s.size) (by omega) (Nat.le_refl _) (fun j h h1 _=>HK.out j h h1 (by omega)) (fun h=>absurd h (Nat.lt_irrefl _)),if_neg (Nat.lt_irrefl _)]
   have HB:=Lib.hid hA.below
   clear hA HA aA HK HI HQ
   go_wp2_with fail
   go_ret
   exact⟨by rw[HF.out];rfl,HB.out⟩
theorem qnZ (s:ByteArray) (w:World) (hs:s.size<=3000) (h0:0<s.size) (hq:(s[0]'h0).toNat≠34) (hb0:qaR (s[0]'h0)=false) :
  Calls Tryz.prog 64 #[.string s] w fun e w'=>e=.returned (.int .i64 (qaW s.data.toList:Nat))/\Below w.heap.size w w':=by
 have aJ:(((s[0]'h0).toNat:Int)==34)=false:=by simp;omega
 have HQ:Hid ((s[0]'h0).toNat≠34/\qaR (s[0]'h0)=false):=⟨hq,hb0⟩
 have H0:Hid (WAt s w (w.iter s 0) 0):=⟨Nat.zero_le _,World.iter_heap _ _ _,(Below.refl _ _).alloc (Nat.le_refl _) _⟩
 clear hq hb0
 go_enter Tryz.func64,Tryz.ntmps64
 go_wp2_with fail
 go_loopw [4] (fun _ wr=>∃ pos:Nat,WAt s w wr pos/\Hid (∀ j (h:j<s.size),j<pos->qaR (s[j]'h)=false)) (fun _ wr=>s.size - wr.iterPos w.heap.size)
 case atStart=>exact⟨0,H0.out,fun j _ h=>absurd h (Nat.not_lt_zero _)⟩
 case round=>
  obtain⟨pos,hA,HK⟩:=hrel
  clear H0
  have aA:=hA.iter
  have HI:Hid (wr.iterPos w.heap.size=pos):=iterPos_of aA
  have aE:=hA.le
  by_cases hp:pos<s.size
  ·by_cases ha:(s[pos]'hp).toNat<128
   ·obtain⟨c,hc⟩:∃ c,(s[pos]'hp).toNat=c:=⟨_,rfl⟩
    have aF:∀ ty,(Instr.next (.pointer (some ⟨w.heap.size,0,none⟩)) true ty).run Tryz.prog wr=.ok (.tuple #[.bool true,.int .i64 (pos:Int),.int .i32 (c:Int)]) (wr.iterAt w.heap.size s (pos+1)):=fun ty=>by
     rw[Lib.run_next_ascii_at wr w.heap.size s pos ty aA hp ha,hc]
    have HN:=Lib.hid (hA.next (pos+1) hp)
    have aC:Hid ((wr.iterAt w.heap.size s (pos+1)).iterPos w.heap.size=pos+1):=iterPos_of (HN.out.iter)
    have aD:qaR (UInt8.ofNat c)=qaR (s[pos]'hp):=by rw[<- hc];simp
    have HC:=Lib.hid (qlA c (wr.iterAt w.heap.size s (pos+1)) (by omega))
    rw[aD]at HC
    cases hbk:qaR (s[pos]'hp) with
    | true=>
     rw[hbk]at HC
     have HF:Hid (qaW s.data.toList=pos):=by
      have aI:1<=pos:=by
       rcases Nat.eq_zero_or_pos pos with e|e
       ·subst e;rw[HQ.out.2]at hbk;cases hbk
       ·exact e
      exact qjR h0 HQ.out.1 aI aE HK.out (fun _=>hbk)
     have HB:=Lib.hid HN.out.below
     clear hA aA HK ha hc HN HI aC HQ hbk aD aE
     go_wp2_with fail
     refine HC.out.mono ?_
     rintro e w2 ⟨rfl,aB⟩
     rw[aB]
     clear aB HC
     go_wp2_with fail
     go_ret
     exact⟨by rw[HF.out];rfl,HB.out⟩
    | false=>
     rw[hbk]at HC
     have HL:Hid (∀ j (h:j<s.size),j<pos+1->qaR (s[j]'h)=false):=fun j h h2=>by
      rcases Nat.lt_or_ge j pos with h3|h3
      ·exact HK.out j h h3
      ·have:j=pos:=by omega
       subst this;exact hbk
     clear hA aA HK ha hc hbk aD
     go_wp2_with fail
     refine HC.out.mono ?_
     rintro e w2 ⟨rfl,aB⟩
     rw[aB]
     clear aB HC
     go_wp2_with fail
     go_roundw
     case rel=>exact⟨pos+1,HN.out,HL.out⟩
     case measure=>rw[aC.out,HI.out];omega
   ·obtain⟨m1,m2,m3⟩:=qnB s pos hp (by omega)
    obtain⟨d1,d2⟩:=decode_high s pos hp (by omega)
    obtain⟨r,d,hd⟩:∃ r d,Utf8.decode s pos=(r,d):=⟨_,_,rfl⟩
    have aF:∀ ty,(Instr.next (.pointer (some ⟨w.heap.size,0,none⟩)) true ty).run Tryz.prog wr=.ok (.tuple #[.bool true,.int .i64 (pos:Int),.int .i32 (r:Int)]) (wr.iterAt w.heap.size s (pos+d)):=fun ty=>by
     rw[Lib.run_next_any_at wr w.heap.size s pos ty aA hp,hd]
    rw[hd]at m1 m2 m3 d1 d2
    dsimp only at m1 m2 m3 d1 d2
    have HN:=Lib.hid (hA.next (pos+d) m1)
    have HC:=Lib.hid (qkK (r:Int) (wr.iterAt w.heap.size s (pos+d)) (by omega) m3)
    have HL:Hid (∀ j (h:j<s.size),j<pos+d->qaR (s[j]'h)=false):=fun j h h2=>by
     rcases Nat.lt_or_ge j pos with h3|h3
     ·exact HK.out j h h3
     ·have h4:=m2 j h h3 h2
      unfold qaR
      have n1:¬ s[j]'h=32:=fun e=>by rw[e]at h4;exact absurd h4 (by decide)
      have n2:¬ s[j]'h=10:=fun e=>by rw[e]at h4;exact absurd h4 (by decide)
      simp[n1,n2]
    have HD:Hid (1<=d/\pos+d<=s.size):=⟨d2,m1⟩
    clear hA aA HK ha m1 m2 m3 d1 d2 hd
    go_wp2_with fail
    refine HC.out.mono ?_
    rintro e w2 ⟨rfl,aH⟩
    have aG:=Lib.hid (HN.out.on aH)
    have aC:Hid (w2.iterPos w.heap.size=pos+d):=iterPos_of (aG.out.iter)
    clear aH HC HN
    go_wp2_with fail
    go_roundw
    case rel=>exact⟨pos+d,aG.out,HL.out⟩
    case measure=>have:=HD.out;rw[aC.out,HI.out];omega
  ·have aF:=fun ty=>Lib.run_next_end_at (P:=Tryz.prog) wr w.heap.size s pos ty aA hp
   have HF:Hid (qaW s.data.toList=s.size):=qjR h0 HQ.out.1 (k:=s.size) (by omega) (Nat.le_refl _) (fun j h _=>HK.out j h (by omega)) (fun h=>absurd h (Nat.lt_irrefl _))
   have HB:=Lib.hid hA.below
   clear hA aA HK HI HQ
   go_wp2_with fail
   go_ret
   exact⟨by rw[HF.out];rfl,HB.out⟩
theorem qtL (s:ByteArray) (w:World) (hs:s.size<=3000) (h0:0<s.size) (hb0:qaR (s[0]'h0)=false) :
  Calls Tryz.prog 64 #[.string s] w fun e w'=>e=.returned (.int .i64 (qaW s.data.toList:Nat))/\Below w.heap.size w w':=by
 by_cases hq:(s[0]'h0).toNat=34
 ·exact qnC s w hs h0 hq
 ·exact qnZ s w hs h0 hq hb0
end Go.Proofs.YtelogmjfekhmpaaGreatDoor
