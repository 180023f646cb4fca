import Derived.Test.YtelogmjfekhmpaaGreatDoorBuf
import Derived.Test.YtelogmjfekhmpaaGreatDoorSpecText2
import Derived.Test.YtelogmjfekhmpaaGreatDoorTMade2
namespace Go.Proofs.YtelogmjfekhmpaaGreatDoor
set_option maxRecDepth 100000
set_option maxHeartbeats 16000000
open Go.RowKit
def Tens (B:Nat) (w:World):Prop:=Lib.TabBelow Tryz.prog B w "internal/strconv.uint64pow10" .u64 Lib.pow10Tab
def qkJ (n:Nat):Prop:=∀ (B:Nat) (w0 w:World) (v:Value) (l:List UInt8) (t:T n) (iv:Value) (d:Int),Buf B w0 w v l->InnerT (fun b=>b<B) w n t iv->goodT n t d=true->cntT n t<=120->l.length+(txtL n t).length<=20000->Tens B w ->
 Calls Tryz.prog 118 #[v,iv] w fun e w'=>∃ v',e=.returned v' /\ Buf B w0 w' v' (l++txtL n t)
theorem Tens.on {B:Nat} {w w':World} (h:Tens B w) (hb:Below B w w'):Tens B w':=Lib.TabBelow.on h hb
theorem qcZ {B:Nat} {w0 w:World} {v:Value} {l l':List UInt8} (h:Buf B w0 w v l) (e:l=l'):Buf B w0 w v l':=e ▸ h
theorem qnT (n:Nat) (hn:qkJ n) (B:Nat) (w0 w:World) (v:Value) (l:List UInt8) (ks:List (T n)) (kv:Value) (d:Int) (hb:Buf B w0 w v l) (hr:Row1 (fun b=>b<B) w (InnerT (fun b=>b<B) w n) ks kv)
  (hg:ks.all (fun x=>goodT n x d)=true) (hc:1+sumL (fun x=>cntT n x) ks<=120) (hl:l.length+(joinL (ks.map (txtL n))).length+2<=20000) (hT:Tens B w) :
  Calls Tryz.prog 150 #[v,kv] w fun e w'=>∃ v',e=.returned v' /\ Buf B w0 w' v' (l++(91 :: joinL (ks.map (txtL n))++[93])):=by
 obtain⟨ao,cap,rfl,aJ,aA⟩:=hr
 unfold maxLen at aJ
 obtain⟨va,vn,vc,rfl⟩:=hb.shape
 have HG:Hid (∀ k (h:k<ks.length),goodT n ks[k] d=true/\cntT n ks[k]<=120):=fun k h=>by
  refine⟨List.all_eq_true.1 hg _ (List.getElem_mem h),?_⟩
  have:=qcB (fun x=>cntT n x) ks _ (List.getElem_mem h)
  omega
 have aI:Hid (∀ k,(joinL ((ks.map (txtL n)).take k)).length<=(joinL (ks.map (txtL n))).length):=fun k=>qdD _ k
 have aQ:Hid (Buf B w0 w (.slice va vn vc) l):=hb
 clear hg
 go_enter Tryz.func150,Tryz.ntmps150
 go_wp2_with (at_builtin;refine qaX rfl (.tmp 7) (.tmp 8) rfl B (.slice va vn vc) l rfl w w 91 91 rfl hb.here rfl (by omega) ?_;intro v1 w1 aO;obtain⟨va1,vn1,vc1,rfl⟩:=aO.shape;refine Hid.out ?_)
 refine Lib.hid ?_
 go_wp2_with fail
 go_loopw [0,12] (fun a i wr=>∃ k:Nat,k<=ks.length/\i=.int .i64 k/\Buf B w wr a (l++[91]++joinL ((ks.map (txtL n)).take k))) (fun _ i _=>ks.length - (intOf i).toNat)
 case atStart=>exact⟨0,Nat.zero_le _,rfl,qcZ aO (by simp[joinL])⟩
 case round=>
  obtain⟨k,hk,rfl,aE⟩:=hrel
  obtain⟨va2,vn2,vc2,rfl⟩:=aE.shape
  have aT:=aI.out k
  by_cases aF:k<ks.length
  ·obtain⟨b,off,rfl,aS,aP⟩:=aA (by intro h;rw[h]at aF;simp at aF)
   obtain⟨c,e0,aK⟩:=aP k aF
   obtain⟨ku,kx,rfl⟩:=aK.iface
   have f0:=(aE.below.cell (p:=⟨b,off+k,none⟩) aS).trans e0
   have aG:=HG.out k aF
   have aL:k<(ks.map (txtL n)).length:=by simpa using aF
   have HS:Hid (joinL ((ks.map (txtL n)).take (k+1))=(if k=0 then [] else joinL ((ks.map (txtL n)).take k)++[44])++txtL n ks[k]):=by show _=_;rw[qcD _ _ aL];simp
   have aM:Hid (∀ W,Below B w W->InnerT (fun b=>b<B) W n ks[k] (.iface ku kx)):=fun W hW=>aK.keep (qaB hW (fun _ h=>h)) (fun _ h=>h)
   clear aA aP e0 aK aL
   have aB:Hid _:=aE
   clear aE
   rcases Nat.eq_zero_or_pos k with rfl|aV
   ·rw[Nat.add_zero]at f0
    go_wp2_with fail
    refine (hn B w wr _ _ ks[0] _ d aB.out (aM.out _ aB.out.below) aG.1 aG.2 (by have h1:=aI.out (0+1);rw[HS.out]at h1;simp[joinL]at h1 ⊢;omega) (hT.on aB.out.below)).mono ?_
    rintro e w2 ⟨v2,rfl,aC⟩
    obtain⟨va3,vn3,vc3,rfl⟩:=aC.shape
    have HF:=qcZ aC (l':=l++[91]++joinL ((ks.map (txtL n)).take (0+1))) (by rw[HS.out];simp[joinL])
    have aR:Hid _:=HF
    clear aC f0 HF
    go_wp2_with fail
    go_roundw
    case rel=>exact⟨0+1,by omega,by go_num,aR.out⟩
    case measure=>simp[intOf];omega
   ·have aU:decide ((0:Int)<(k:Int))=true:=decide_eq_true (by omega)
    go_wp2_with (at_builtin;refine qaX rfl (.tmp 19) (.tmp 20) rfl B (.slice va2 vn2 vc2) _ rfl w wr 44 44 rfl aB.out rfl (by simp;omega) ?_;intro v3 w3 aD;obtain⟨va3,vn3,vc3,rfl⟩:=aD.shape;refine Hid.out ?_)
    refine Lib.hid ?_
    have aH:Hid _:=aD
    clear aD
    go_wp2_with fail
    refine (hn B w w3 _ _ ks[k] _ d aH.out (aM.out _ aH.out.below) aG.1 aG.2 (by have h1:=aI.out (k+1);rw[HS.out,if_neg (by omega)]at h1;simp at h1 ⊢;omega) (hT.on aH.out.below)).mono ?_
    rintro e w2 ⟨v2,rfl,aC⟩
    obtain⟨va4,vn4,vc4,rfl⟩:=aC.shape
    have HF:Hid _:=qcZ aC (l':=l++[91]++joinL ((ks.map (txtL n)).take (k+1))) (by rw[HS.out,if_neg (by omega)];simp)
    clear aC f0 aH aB
    go_wp2_with fail
    go_roundw
    case rel=>exact⟨k+1,by omega,by go_num,HF.out⟩
    case measure=>simp[intOf];omega
  ·have aN:k=ks.length:=by omega
   have aB:Hid (Buf B w wr (.slice va2 vn2 vc2) (l++[91]++joinL (ks.map (txtL n)))):=qcZ aE (by rw[aN,<- List.length_map (f:=txtL n),List.take_length])
   clear aA aE aN
   go_wp2_with (at_builtin;refine qaX rfl (.tmp 26) (.tmp 27) rfl B (.slice va2 vn2 vc2) _ rfl w wr 93 93 rfl aB.out rfl (by simp;omega) ?_;intro v3 w3 aD;obtain⟨va3,vn3,vc3,rfl⟩:=aD.shape;refine Hid.out ?_)
   refine Lib.hid ?_
   have HF:Hid _:=qcZ (aD.from aQ.out) (l':=l++(91 :: joinL (ks.map (txtL n))++[93])) (by simp)
   clear aD aB
   go_wp2_with fail
   go_ret
   exact⟨_,rfl,HF.out⟩
end Go.Proofs.YtelogmjfekhmpaaGreatDoor
