import Derived.Test.YtelogmjfekhmpaaGreatDoorDec
import Derived.Test.YtelogmjfekhmpaaGreatDoorSpec3
import Derived.Test.YtelogmjfekhmpaaGreatDoorBox
namespace Go.Proofs.YtelogmjfekhmpaaGreatDoor
set_option maxRecDepth 100000
set_option maxHeartbeats 16000000
open Go.RowKit
def qhL (n:Nat):Prop:=∀ (S:Nat->Prop) (t:T n) (c0 c1 c2 c3 c4:Value) (d:Int) (w:World),TreeIn S w n t c0 c1 c2 c3 c4->(∀ b,S b->b<w.heap.size)->goodT n t d=true->cntT n t<=120 ->
 Calls Tryz.prog 47 #[.agg #[c0,c1,c2,c3,c4]] w fun e w'=>e=.returned (.string (bs (txtL n t)))/\Below w.heap.size w w'
theorem xgD (m:Int) (x:ByteArray) (na ka:Option Addr) (nl nc kl kc:Nat) (w:World) (h0 : -999999999<=m) (h1:m<=999999999) :
  Calls Tryz.prog 47 #[.agg #[.int .i64 1,.int .i64 m,.string x,.slice na nl nc,.slice ka kl kc]] w fun e w'=>e=.returned (.string (bs (Lib.itoa m)))/\Below w.heap.size w w':=by
 have aA:=(Below.refl w.heap.size w).alloc (Nat.le_refl _) (.cells #[.int .i64 1,.int .i64 m,.string x,.slice na nl nc,.slice ka kl kc] 67)
 go_enter Tryz.func47,Tryz.ntmps47
 go_wp2_with fail
 refine (xaP m _ h0 h1).mono ?_
 rintro e w1 ⟨rfl,aB⟩
 have aC:=qaA aA (by simp) aB
 clear aA aB
 go_wp2_with fail
 go_ret
 exact⟨rfl,aC⟩
theorem xbW (m:Int) (x:ByteArray) (na ka:Option Addr) (nl nc kl kc:Nat) (w:World) (hx:x.size<=60) :
  Calls Tryz.prog 47 #[.agg #[.int .i64 2,.int .i64 m,.string x,.slice na nl nc,.slice ka kl kc]] w fun e w'=>e=.returned (.string (bs (34 :: x.data.toList++[34])))/\Below w.heap.size w w':=by
 have HA:Hid (bs [34]++x++bs [34]=bs (34 :: x.data.toList++[34])):=by
  show _=_
  rw[<- bs_of x,qaU,qaU,qcC];rfl
 have aA:(bs [34]).size=1:=by rw[qaJ];rfl
 go_enter Tryz.func47,Tryz.ntmps47
 go_wp2_with fail
 go_ret
 exact⟨qdX HA.out,(Below.refl _ _).alloc (Nat.le_refl _) _⟩
theorem xbX (m:Int) (x:ByteArray) (na ka:Option Addr) (nl nc kl kc:Nat) (w:World) :
  Calls Tryz.prog 47 #[.agg #[.int .i64 3,.int .i64 m,.string x,.slice na nl nc,.slice ka kl kc]] w fun e w'=>e=.returned (.string (bs (if m=1 then [121,101,115] else [110,111])))/\Below w.heap.size w w':=by
 by_cases hm:m=1
 ·subst hm
  go_enter Tryz.func47,Tryz.ntmps47
  go_wp2_with fail
  go_ret
  exact⟨rfl,(Below.refl _ _).alloc (Nat.le_refl _) _⟩
 ·rw[if_neg hm]
  have aA:(m==1)=false:=by simpa using hm
  clear hm
  go_enter Tryz.func47,Tryz.ntmps47
  go_wp2_with fail
  go_ret
  exact⟨rfl,(Below.refl _ _).alloc (Nat.le_refl _) _⟩
theorem qyB (n:Nat) (hn:qhL n) (S:Nat->Prop) (ks:List (T n)) (m:Int) (x:ByteArray) (na:Option Addr) (nl nc:Nat) (kv:Value) (d:Int) (w:World) (hr:RowIn S w (TreeIn S w n) ks kv) (hB:∀ b,S b->b<w.heap.size)
  (hg:ks.all (fun x=>goodT n x d)=true) (hc:1+sumL (fun x=>cntT n x) ks<=120) :
  Calls Tryz.prog 47 #[.agg #[.int .i64 6,.int .i64 m,.string x,.slice na nl nc,kv]] w fun e w'=>e=.returned (.string (bs (qfB (txtL n) ks)))/\Below w.heap.size w w':=by
 have aJ:=hr
 obtain⟨ao,cap,rfl,aF,aB⟩:=hr
 cases ks with
 | nil=>
  go_enter Tryz.func47,Tryz.ntmps47
  go_wp2_with fail
  go_ret
  exact⟨rfl,(Below.refl _ _).alloc (Nat.le_refl _) _⟩
 | cons k r=>
  obtain⟨b,off,rfl,aL,aH⟩:=aB (by simp)
  obtain⟨y0,y1,y2,y3,y4,e0,e1,e2,e3,e4,aG⟩:=aH 0 (by simp)
  simp only[Nat.zero_mul,Nat.add_zero,List.getElem_cons_zero]at e0 e1 e2 e3 e4 aG
  unfold maxLen at aF
  simp only[List.length_cons]at aF
  have aA:=(Below.refl w.heap.size w).alloc (Nat.le_refl _) (.cells #[.int .i64 6,.int .i64 m,.string x,.slice na nl nc,.slice (some ⟨b,off,none⟩) (r.length+1) cap] 67)
  have aC:=hB b aL
  have f0:=(aA.cell (p:=⟨b,off,none⟩) aC).trans e0
  have f1:=(aA.cell (p:=⟨b,off+1,none⟩) aC).trans e1
  have f2:=(aA.cell (p:=⟨b,off+2,none⟩) aC).trans e2
  have f3:=(aA.cell (p:=⟨b,off+3,none⟩) aC).trans e3
  have f4:=(aA.cell (p:=⟨b,off+4,none⟩) aC).trans e4
  have aD:=aG.keep (qaB aA hB) (fun _ h=>h)
  simp only[List.all_cons,Bool.and_eq_true]at hg
  simp only[sumL]at hc
  have aE:=qhE n k d hg.1
  have aM:(bs (txtL n k)).size<=9840:=by rw[qaJ];omega
  have HA:Hid (bs [63]++bs (txtL n k)=bs (63 :: txtL n k)):=by show _=_;rw[qaU];rfl
  have aN:(((r.length:Nat):Int)+1==0)=false:=by simp;omega
  have HQ:Hid (Calls Tryz.prog 47 #[.agg #[y0,y1,y2,y3,y4]] _ _):=hn S k y0 y1 y2 y3 y4 d _ aD (fun b hb=>by have:=hB b hb;simp;omega) hg.1 (by omega)
  clear aB aH e0 e1 e2 e3 e4 aG aD aJ hg aE hn
  rw[List.length_cons]
  go_enter Tryz.func47,Tryz.ntmps47
  go_wp2_with fail
  refine HQ.out.mono ?_
  rintro e w1 ⟨rfl,aI⟩
  have aK:=qaA aA (by simp) aI
  clear aA aI f0 f1 f2 f3 f4 HQ
  go_wp2_with fail
  go_ret
  exact⟨qdX HA.out,aK⟩
def soFar (parts:List (List UInt8)) (k:Nat):ByteArray:=bs (joinL (parts.take k))
theorem qoJ (parts:List (List UInt8)) (k:Nat) (h:k<parts.length) (hk:¬ k=0):soFar parts (k+1)=soFar parts k++bs [44]++bs parts[k]:=by
 unfold soFar;rw[qcD _ _ h,if_neg hk,qaU,qaU]
theorem qmB (parts:List (List UInt8)) (h:0<parts.length):soFar parts (0+1)=bs []++bs parts[0]:=by
 unfold soFar;rw[qcD _ _ h,if_pos rfl,qaU]
theorem xbY (n:Nat) (hn:qhL n) (S:Nat->Prop) (ks:List (T n)) (m:Int) (x:ByteArray) (na:Option Addr) (nl nc:Nat) (kv:Value) (d:Int) (w:World) (hr:RowIn S w (TreeIn S w n) ks kv) (hB:∀ b,S b->b<w.heap.size)
  (hg:ks.all (fun x=>goodT n x d)=true) (hc:1+sumL (fun x=>cntT n x) ks<=120) (hjl:(joinL (ks.map (txtL n))).length<=9840) :
  Calls Tryz.prog 47 #[.agg #[.int .i64 4,.int .i64 m,.string x,.slice na nl nc,kv]] w fun e w'=>e=.returned (.string (bs (91 :: joinL (ks.map (txtL n))++[93])))/\Below w.heap.size w w':=by
 obtain⟨ao,cap,rfl,aN,aC⟩:=hr
 unfold maxLen at aN
 have aO:=(Below.refl w.heap.size w).alloc (Nat.le_refl _) (.cells #[.int .i64 4,.int .i64 m,.string x,.slice na nl nc,.slice ao ks.length cap] 67)
 have aM:=Box5.new w (.int .i64 4) (.int .i64 m) (.string x) (.slice na nl nc) (.slice ao ks.length cap) 67
 have aX:(w.alloc (.cells #[.int .i64 4,.int .i64 m,.string x,.slice na nl nc,.slice ao ks.length cap] 67)).heap.size=w.heap.size+1:=by simp
 have aP:Hid (∀ k,(soFar (ks.map (txtL n)) k).size<=9840):=fun k=>by
  have:=qdD (ks.map (txtL n)) k
  unfold soFar;rw[qaJ];omega
 have HG:Hid (∀ k (h:k<ks.length),goodT n ks[k] d=true/\cntT n ks[k]<=120):=fun k h=>by
  refine⟨List.all_eq_true.1 hg _ (List.getElem_mem h),?_⟩
  have:=qcB (fun x=>cntT n x) ks _ (List.getElem_mem h)
  omega
 clear hg
 go_enter Tryz.func47,Tryz.ntmps47
 go_wp2_with fail
 generalize hW:w.alloc (.cells #[.int .i64 4,.int .i64 m,.string x,.slice na nl nc,.slice ao ks.length cap] 67)=W at *
 clear hW
 go_loopw [3,4] (fun a i wr=>∃ k:Nat,k<=ks.length/\i=.int .i64 k/\a=.string (soFar (ks.map (txtL n)) k)/\Below W.heap.size W wr) (fun _ i _=>ks.length - (intOf i).toNat)
 case atStart=>exact⟨0,Nat.zero_le _,rfl,rfl,Below.refl _ _⟩
 case round=>
  obtain⟨k,hk,rfl,rfl,aB⟩:=hrel
  have aV:=aP.out k
  obtain⟨i0,i1,i2,i3,i4⟩:=aM.keep aB
  have aQ:=aB.size
  by_cases aH:k<ks.length
  ·obtain⟨b,off,rfl,aW,aT⟩:=aC (by intro h;rw[h]at aH;simp at aH)
   obtain⟨y0,y1,y2,y3,y4,e0,e1,e2,e3,e4,aU⟩:=aT k aH
   have aE:=hB b aW
   have aD:Below w.heap.size w wr:=qaA aO (by omega) aB
   have f0:=(aD.cell (p:=⟨b,off+k*5,none⟩) aE).trans e0
   have f1:=(aD.cell (p:=⟨b,off+k*5+1,none⟩) aE).trans e1
   have f2:=(aD.cell (p:=⟨b,off+k*5+2,none⟩) aE).trans e2
   have f3:=(aD.cell (p:=⟨b,off+k*5+3,none⟩) aE).trans e3
   have f4:=(aD.cell (p:=⟨b,off+k*5+4,none⟩) aE).trans e4
   have aF:=aU.keep (qaB aD hB) (fun _ h=>h)
   have aJ:=HG.out k aH
   have aG:=qhE n ks[k] d aJ.1
   have aY:(bs (txtL n ks[k])).size<=9840:=by rw[qaJ];omega
   have HQ:Hid (Calls Tryz.prog 47 #[.agg #[y0,y1,y2,y3,y4]] wr _):=hn S ks[k] y0 y1 y2 y3 y4 d wr aF (fun b hb=>by have:=hB b hb;omega) aJ.1 aJ.2
   have aR:=aP.out (k+1)
   have aK:k<(ks.map (txtL n)).length:=by simpa using aH
   have aL:(ks.map (txtL n))[k]=txtL n ks[k]:=by simp
   clear aC aT e0 e1 e2 e3 e4 aU aF aJ aG aD
   rcases Nat.eq_zero_or_pos k with rfl|bB
   ·have HS:Hid (soFar (ks.map (txtL n)) (0+1)=bs []++bs (txtL n ks[0])):=by show _=_;rw[qmB _ aK,aL]
    have HE:Hid (soFar (ks.map (txtL n)) 0=bs []):=rfl
    clear aR aK aL
    rw[Nat.zero_mul,Nat.add_zero]at f0
    rw[Nat.zero_mul,Nat.add_zero]at f1 f2 f3 f4
    rw[HE.out]
    rw[HE.out]at aV
    generalize hac:bs []=acc at *
    generalize bs (txtL n ks[0])=tk at *
    clear hac
    go_wp2_with fail
    refine HQ.out.mono ?_
    rintro e w1 ⟨rfl,aI⟩
    have aA:=qaA aB aQ aI
    obtain⟨j0,j1,j2,j3,j4⟩:=aM.keep aA
    clear aI HQ f0 f1 f2 f3 f4 i0 i1 i2 i3 i4
    go_wp2_with fail
    go_roundw
    case rel=>exact⟨0+1,by omega,by go_num,by rw[HS.out],aA⟩
    case measure=>simp[intOf];omega
   ·have HS:Hid (soFar (ks.map (txtL n)) (k+1)=soFar (ks.map (txtL n)) k++bs [44]++bs (txtL n ks[k])):=by show _=_;rw[qoJ _ _ aK (by omega),aL]
    have aZ:decide ((0:Int)<(k:Int))=true:=decide_eq_true (by omega)
    clear aR aK aL
    generalize soFar (ks.map (txtL n)) k=acc at *
    generalize bs (txtL n ks[k])=tk at *
    have bA:(acc++bs [44]).size<=9841:=by rw[ByteArray.size_append,qaJ];simp;omega
    go_wp2_with fail
    refine HQ.out.mono ?_
    rintro e w1 ⟨rfl,aI⟩
    have aA:=qaA aB aQ aI
    obtain⟨j0,j1,j2,j3,j4⟩:=aM.keep aA
    clear aI HQ f0 f1 f2 f3 f4 i0 i1 i2 i3 i4
    go_wp2_with fail
    go_roundw
    case rel=>exact⟨k+1,by omega,by go_num,by rw[HS.out];rfl,aA⟩
    case measure=>simp[intOf];omega
  ·have aS:k=ks.length:=by omega
   have HE:Hid (bs [91]++soFar (ks.map (txtL n)) k++bs [93]=bs (91 :: joinL (ks.map (txtL n))++[93])):=by
    show _=_
    unfold soFar
    rw[aS,<- List.length_map (f:=txtL n),List.take_length,qaU,qaU];rfl
   have aD:Below w.heap.size w wr:=qaA aO (by omega) aB
   clear aS aC
   generalize soFar (ks.map (txtL n)) k=acc at *
   go_wp2_with fail
   go_ret
   exact⟨qdX HE.out,aD⟩
end Go.Proofs.YtelogmjfekhmpaaGreatDoor
