import Derived.Test.YtelogmjfekhmpaaGreatDoorNB8
import Derived.Test.YtelogmjfekhmpaaGreatDoorBuf
import Derived.Test.YtelogmjfekhmpaaGreatDoorImplWrite
namespace Go.Proofs.YtelogmjfekhmpaaGreatDoor
set_option maxRecDepth 100000
set_option maxHeartbeats 16000000
open Go.RowKit
structure Wrt (B wb bk:Nat) (w0 w:World) (v:Value) (l:List UInt8):Prop where
 own:w.ownsRow B 5 1 v l.length (Lib.byteCells l)
 below:Below B w0 w
 le:B<=w.heap.size
 kept:Lib.OthersKept 5 (some wb) w0 w
 box:w.heap[wb]?=some (.cells #[.pointer (some ⟨bk,0,none⟩),v] 109 (0,0))
 ge:B<=wb
theorem Wrt.here {B wb bk:Nat} {w0 w:World} {v:Value} {l:List UInt8} (h:Wrt B wb bk w0 w v l):Wrt B wb bk w w v l:=⟨h.own,Below.refl _ _,h.le,Lib.OthersKept.refl _ _ _,h.box,h.ge⟩
theorem Wrt.from {B wb bk:Nat} {w0 w1 w:World} {v v0:Value} {l l0:List UInt8} (h:Wrt B wb bk w1 w v l) (h0:Wrt B wb bk w0 w1 v0 l0):Wrt B wb bk w0 w v l:=⟨h.own,h0.below.trans h.below,h.le,h0.kept.trans h.kept,h.box,h.ge⟩
theorem Wrt.buf {B wb bk:Nat} {w0 w:World} {v:Value} {l:List UInt8} (h:Wrt B wb bk w0 w v l):Buf B w w v l:=⟨h.own,Below.refl _ _,h.le,Lib.OthersKept.refl _ _ _⟩
theorem xeJ {e:TypeId} {b:Option Nat} {w w':World} (h:Lib.OthersKept e none w w'):Lib.OthersKept e b w w':=fun k o hk _ ho=>h k o hk (by simp) ho
theorem xeK {w:World} {B wb:Nat} {v x:Value} {n:Nat} {xs:List Value} {o:Obj} (h:w.ownsRow B 5 1 v n xs) (hb:w.heap[wb]?=some o) (ho:∀ c fz,o≠.cells c 5 fz) (i:Nat):(w.setCell ⟨wb,i,none⟩ x).ownsRow B 5 1 v n xs:=by
 refine⟨h.1,?_⟩
 rcases h.2 with hn|⟨g,cap,cur,hv,aA,hg,hr⟩
 ·exact .inl hn
 ·refine .inr ⟨g,cap,cur,hv,aA,?_,hr⟩
  rw[Below.heap_setCell _ _ _ _ (fun e=>?_)]
  ·exact hg
  ·have e2:g=wb:=e
   subst e2
   rw[hg]at hb
   exact ho _ _ (Option.some.inj hb).symm
theorem Wrt.took {B wb bk:Nat} {w0 w w1:World} {v v1:Value} {l l1:List UInt8} (h:Wrt B wb bk w0 w v l) (hb:Buf B w w1 v1 l1):Wrt B wb bk w0 (w1.setCell ⟨wb,1,none⟩ v1) v1 l1:=by
 have aA:w1.heap[wb]?=some (.cells #[.pointer (some ⟨bk,0,none⟩),v] 109 (0,0)):=hb.kept wb _ h.box (by simp) (fun c fz e=>by cases e)
 exact⟨xeK hb.own aA (fun c fz e=>by cases e) 1,(h.below.trans hb.below).setCell h.ge _,by have:=hb.le;simpa using this,(h.kept.trans (xeJ hb.kept)).setCell _ rfl _,xiU aA _,h.ge⟩
theorem Wrt.lt {B wb bk:Nat} {w0 w:World} {v:Value} {l:List UInt8} (h:Wrt B wb bk w0 w v l):wb<w.heap.size:=(Array.getElem?_eq_some_iff.1 h.box).1
theorem Wrt.alloc {B wb bk:Nat} {w0 w:World} {v:Value} {l:List UInt8} (h:Wrt B wb bk w0 w v l) (o:Obj):Wrt B wb bk w0 (w.alloc o) v l:=
 ⟨h.own.alloc o,h.below.alloc h.le o,by have:=h.le;simp;omega,h.kept.alloc o,(Below.heap_alloc _ _ _ h.lt).trans h.box,h.ge⟩
theorem Wrt.drew {B wb bk:Nat} {w0 w:World} {v:Value} {l:List UInt8} (h:Wrt B wb bk w0 w v l):Wrt B wb bk w0 w.drew v l:=
 ⟨h.own.drew,h.below.drew,h.le,h.kept.drew,h.box,h.ge⟩
theorem Wrt.on {B wb bk:Nat} {w0 w w':World} {v:Value} {l:List UInt8} (h:Wrt B wb bk w0 w v l) (hb:Below w.heap.size w w'):Wrt B wb bk w0 w' v l:=by
 refine⟨⟨h.own.1,?_⟩,h.below.trans (hb.mono h.le),Nat.le_trans h.le hb.size,h.kept.trans (fun k o hk _ _=>(hb.block k (Array.getElem?_eq_some_iff.1 hk).1).trans hk),(hb.block wb h.lt).trans h.box,h.ge⟩
 rcases h.own.2 with hn|⟨g,cap,cur,hv,aA,hg,hr⟩
 ·exact .inl hn
 ·exact .inr ⟨g,cap,cur,hv,aA,(hb.block g (Array.getElem?_eq_some_iff.1 hg).1).trans hg,hr⟩
theorem Wrt.cells {B wb bk:Nat} {w0 w:World} {v:Value} {l:List UInt8} (h:Wrt B wb bk w0 w v l):w.cell? ⟨wb,0,none⟩=some (.pointer (some ⟨bk,0,none⟩))/\w.cell? ⟨wb,1,none⟩=some v/\w.frozen? ⟨wb,1,none⟩=false:=by
 have:=h.box
 refine⟨?_,?_,?_⟩ <;> simp[World.cell?,World.frozen?,this]
def WPost (B wb bk:Nat) (w:World) (k:Nat) (e:Ending) (w':World):Prop:=e=.returned (.tuple #[])/\∃ v' l',Wrt B wb bk w w' v' l' /\ l'.length=k
theorem qdA (B wb bk:Nat) (w:World) (v:Value) (l:List UInt8) (s:ByteArray) (h:Wrt B wb bk w w v l) (hl:l.length+1+s.size<=900000) :
  Calls Tryz.prog 91 #[.pointer (some ⟨wb,0,none⟩),.string s] w (WPost B wb bk w (wk l.length s.size)):=by
 obtain⟨va,vn,vc,rfl⟩:=h.buf.shape
 obtain⟨-,c1,f1⟩:=h.cells
 have aF:vn=l.length:=by
  rcases h.own.2 with ⟨hv,h0⟩|⟨g,cap,cur,hv,-⟩
  ·cases hv;exact h0.symm
  ·cases hv;rfl
 by_cases h0:l.length=0
 ·obtain rfl:vn=0:=by omega
  have HB:=hidF h.buf
  have HL:Hid (wk l.length s.size=s.size/\l.length=0):=⟨by simp[wk,h0],h0⟩
  have aB:l.length+s.size<=1000000:=by omega
  clear h0 aF hl
  go_enter Tryz.func91,Tryz.ntmps91
  go_wp2_with (at_builtin;refine qcI rfl (.tmp 23) (.tmp 24) 9 rfl Tryz.underlying9 B (.slice va 0 vc) l rfl w HB.out s rfl aB ?_;intro v1 w1 aA;obtain⟨va1,vn1,vc1,rfl⟩:=aA.shape;refine Hid.out ?_)
  refine Lib.hid ?_
  have hw:=h.took aA
  have hq:=aA.kept wb _ h.box (by simp) (fun c fz e=>by cases e)
  have q1:w1.cell? ⟨wb,1,none⟩=some (.slice va 0 vc):=by simp[World.cell?,hq]
  have q2:w1.frozen? ⟨wb,1,none⟩=false:=by simp[World.frozen?,hq]
  have HP:Hid (WPost B wb bk w (wk l.length s.size) (.returned (.tuple #[])) (w1.setCell ⟨wb,1,none⟩ (.slice va1 vn1 vc1))):=⟨rfl,_,_,hw,by rw[List.length_append,HL.out.1,HL.out.2];simp⟩
  clear aA hw h HB hq
  go_wp2_with fail
  refine bodyPost_end (results_none rfl _ _ _) rfl ?_
  exact HP.out
 ·have aI:(0:Int)<(vn:Int):=by omega
  have HB:=hidF h.buf
  have HL:Hid (wk l.length s.size=l.length+1+s.size):=qeQ (by omega) _
  have aB:l.length<=1000000:=by omega
  have aC:(l++[32]).length+s.size<=1000000:=by simp;omega
  clear h0 aF hl
  go_enter Tryz.func91,Tryz.ntmps91
  go_wp2_with (at_builtin;refine qaX rfl (.tmp 14) (.tmp 15) rfl B (.slice va vn vc) l rfl w w 32 32 rfl HB.out rfl aB ?_;intro v1 w1 aA;obtain⟨va1,vn1,vc1,rfl⟩:=aA.shape;refine Hid.out ?_)
  refine Lib.hid ?_
  have hw:=h.took aA
  have hq:=aA.kept wb _ h.box (by simp) (fun c fz e=>by cases e)
  have q1:w1.cell? ⟨wb,1,none⟩=some (.slice va vn vc):=by simp[World.cell?,hq]
  have q2:w1.frozen? ⟨wb,1,none⟩=false:=by simp[World.frozen?,hq]
  have HW:=hidF hw
  have aG:=hidF hw.buf
  clear aA hw h HB hq
  go_wp2_with (at_builtin;refine qcI rfl (.tmp 23) (.tmp 24) 9 rfl Tryz.underlying9 B (.slice va1 vn1 vc1) (l++[32]) rfl _ aG.out s rfl aC ?_;intro v2 w2 aD;obtain⟨va2,vn2,vc2,rfl⟩:=aD.shape;refine Hid.out ?_)
  refine Lib.hid ?_
  have aH:=HW.out.took aD
  have aE:=aD.kept wb _ HW.out.box (by simp) (fun c fz e=>by cases e)
  have q3:w2.cell? ⟨wb,1,none⟩=some (.slice va1 vn1 vc1):=by simp[World.cell?,aE]
  have q4:w2.frozen? ⟨wb,1,none⟩=false:=by simp[World.frozen?,aE]
  have HP:Hid (WPost B wb bk w (wk l.length s.size) (.returned (.tuple #[])) (w2.setCell ⟨wb,1,none⟩ (.slice va2 vn2 vc2))):=⟨rfl,_,_,aH,by rw[List.length_append,List.length_append,HL.out];simp⟩
  clear aD aH HW aG aE q1 q2
  go_wp2_with fail
  refine bodyPost_end (results_none rfl _ _ _) rfl ?_
  exact HP.out
end Go.Proofs.YtelogmjfekhmpaaGreatDoor
