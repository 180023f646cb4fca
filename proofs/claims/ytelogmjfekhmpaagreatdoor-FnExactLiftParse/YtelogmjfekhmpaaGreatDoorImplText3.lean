import Derived.Test.YtelogmjfekhmpaaGreatDoorImplText2
namespace Go.Proofs.YtelogmjfekhmpaaGreatDoor
set_option maxRecDepth 100000
set_option maxHeartbeats 16000000
open Go.RowKit
theorem qnU (n:Nat) (hn:qkJ n) (B:Nat) (w0 w:World) (v:Value) (l:List UInt8) (ns:List ByteArray) (nv:Value) (ks:List (T n)) (kv:Value) (d:Int) (hN:StrsIn (fun b=>b<B) w ns nv) (hll:ns.length=ks.length) (hl8:∀ s,s∈ns->s.size<=8)
  (hb:Buf B w0 w v l) (hr:Row1 (fun b=>b<B) w (InnerT (fun b=>b<B) w n) ks kv)
  (hg:ks.all (fun x=>goodT n x d)=true) (hc:1+sumL (fun x=>cntT n x) ks<=120) (hl:l.length+(joinL (zipL ns (ks.map (txtL n)))).length+2<=20000) (hT:Tens B w) :
  Calls Tryz.prog 151 #[v,nv,kv,.func (.func 118) #[] #[]] w fun e w'=>∃ v',e=.returned v' /\ Buf B w0 w' v' (l++(123 :: joinL (zipL ns (ks.map (txtL n)))++[125])):=by
 obtain⟨ao,cap,rfl,aR,aB⟩:=hr
 obtain⟨no,ncap,rfl,-,-,aA⟩:=hN
 unfold maxLen at aR
 obtain⟨va,vn,vc,rfl⟩:=hb.shape
 have bE:=hb.le
 have HG:Hid (∀ k (h:k<ks.length),goodT n ks[k] d=true/\cntT n ks[k]<=120):=fun k h=>by
  refine⟨List.all_eq_true.1 hg _ (List.getElem_mem h),?_⟩
  have:=qcB (fun x=>cntT n x) ks _ (List.getElem_mem h)
  omega
 have aN:Hid (∀ k,(joinL ((zipL ns (ks.map (txtL n))).take k)).length<=(joinL (zipL ns (ks.map (txtL n)))).length):=fun k=>qdD _ k
 have aO:Hid (ns.length=ks.length):=hll
 have aU:Hid (Buf B w0 w (.slice va vn vc) l):=hb
 clear hg hll
 go_enter Tryz.func151,Tryz.ntmps151
 go_wp2_with (at_builtin;refine qaX rfl (.tmp 11) (.tmp 12) rfl B (.slice va vn vc) l rfl w w 123 123 rfl aU.out.here rfl (by omega) ?_;intro v1 w1 aS;obtain⟨va1,vn1,vc1,rfl⟩:=aS.shape;refine Hid.out ?_)
 refine Lib.hid ?_
 have aV:Hid _:=aS
 clear aS
 go_wp2_with fail
 go_loopw [0,16] (fun a i wr=>∃ k:Nat,k<=ks.length/\i=.int .i64 k/\Buf B w wr a (l++[123]++joinL ((zipL ns (ks.map (txtL n))).take k))) (fun _ i _=>ks.length - (intOf i).toNat)
 case atStart=>exact⟨0,Nat.zero_le _,rfl,qcZ aV.out (by simp[joinL])⟩
 case round=>
  obtain⟨k,hk,rfl,aJ⟩:=hrel
  obtain⟨va2,vn2,vc2,rfl⟩:=aJ.shape
  have bF:=aN.out k
  clear aV
  by_cases aE:k<ks.length
  ·obtain⟨b,off,rfl,bC,aY⟩:=aB (by intro h;rw[h]at aE;simp at aE)
   obtain⟨c,e0,aT⟩:=aY k aE
   obtain⟨ku,kx,rfl⟩:=aT.iface
   have f0:=(aJ.below.cell (p:=⟨b,off+k,none⟩) bC).trans e0
   have aM:=HG.out k aE
   have aK:k<ns.length:=by rw[aO.out];exact aE
   obtain⟨nb,noff,rfl,bD,aZ⟩:=aA (by intro h;rw[h]at aK;simp at aK)
   have bA:=hl8 ns[k] (List.getElem_mem aK)
   have aP:Hid (∀ W,Below B w W->W.cell? ⟨nb,noff+k,none⟩=some (.string ns[k])):=fun W hW=>(hW.cell (p:=⟨nb,noff+k,none⟩) bD).trans (aZ k aK)
   have aQ:k<(zipL ns (ks.map (txtL n))).length:=by rw[qbP _ _ (by simpa using aO.out)];simpa using aE
   have HS:Hid (joinL ((zipL ns (ks.map (txtL n))).take (k+1))=(if k=0 then [] else joinL ((zipL ns (ks.map (txtL n))).take k)++[44])++(ns[k].data.toList++58 :: txtL n ks[k])):=by
    show _=_
    rw[qcD _ _ aQ,qiJ ns (ks.map (txtL n)) k aK (by simpa using aE) aQ,List.getElem_map]
   have aW:Hid (∀ W,Below B w W->InnerT (fun b=>b<B) W n ks[k] (.iface ku kx)):=fun W hW=>aT.keep (qaB hW (fun _ h=>h)) (fun _ h=>h)
   have bB:ns[k].data.toList.length=ns[k].size:=by simp
   clear aB aY e0 aT aQ aA aZ
   have aD:Hid _:=aJ
   clear aJ
   rcases Nat.eq_zero_or_pos k with rfl|bH
   ·rw[Nat.add_zero]at f0
    rw[Nat.add_zero]at aP
    generalize ns[0]=nm at *
    have HC:Hid _:=aD.out
    have q0:=aP.out _ HC.out.below
    go_wp2_with (at_builtin;refine qcI rfl (.tmp 26) (.tmp 30) 9 rfl Tryz.underlying9 B (.slice va2 vn2 vc2) _ rfl w HC.out nm rfl (by simp[joinL];omega) ?_;intro v5 w5 aF;obtain⟨va5,vn5,vc5,rfl⟩:=aF.shape;refine Hid.out ?_)
    refine Lib.hid ?_
    have aL:Hid _:=aF
    clear aF HC q0 aD f0
    go_wp2_with (at_builtin;refine qaX rfl (.tmp 32) (.tmp 33) rfl B (.slice va5 vn5 vc5) _ rfl w w5 58 58 rfl aL.out rfl (by simp[joinL];omega) ?_;intro v6 w6 aG;obtain⟨va6,vn6,vc6,rfl⟩:=aG.shape;refine Hid.out ?_)
    refine Lib.hid ?_
    have aC:Hid _:=aG
    clear aG aL
    go_wp2_with fail
    refine (hn B w w6 _ _ ks[0] _ d aC.out (aW.out _ aC.out.below) aM.1 aM.2 (by have h1:=aN.out (0+1);rw[HS.out]at h1;simp[joinL]at h1 ⊢;omega) (hT.on aC.out.below)).mono ?_
    rintro e w7 ⟨v7,rfl,aH⟩
    obtain⟨va7,vn7,vc7,rfl⟩:=aH.shape
    have HF:Hid _:=qcZ aH (l':=l++[123]++joinL ((zipL ns (ks.map (txtL n))).take (0+1))) (by rw[HS.out];simp[joinL])
    clear aH aC
    go_wp2_with fail
    go_roundw
    case rel=>exact⟨0+1,by omega,by go_num,HF.out⟩
    case measure=>simp[intOf];omega
   ·have bG:decide ((0:Int)<(k:Int))=true:=decide_eq_true (by omega)
    generalize ns[k]=nm at *
    go_wp2_with (at_builtin;refine qaX rfl (.tmp 23) (.tmp 24) rfl B (.slice va2 vn2 vc2) _ rfl w wr 44 44 rfl aD.out rfl (by simp;omega) ?_;intro v3 w3 aI;obtain⟨va3,vn3,vc3,rfl⟩:=aI.shape;refine Hid.out ?_)
    refine Lib.hid ?_
    have HC:Hid _:=aI
    clear aI
    have q0:=aP.out _ HC.out.below
    go_wp2_with (at_builtin;refine qcI rfl (.tmp 26) (.tmp 30) 9 rfl Tryz.underlying9 B (.slice va3 vn3 vc3) _ rfl w HC.out nm rfl (by simp;omega) ?_;intro v5 w5 aF;obtain⟨va5,vn5,vc5,rfl⟩:=aF.shape;refine Hid.out ?_)
    refine Lib.hid ?_
    have aL:Hid _:=aF
    clear aF HC q0 aD f0
    go_wp2_with (at_builtin;refine qaX rfl (.tmp 32) (.tmp 33) rfl B (.slice va5 vn5 vc5) _ rfl w w5 58 58 rfl aL.out rfl (by simp;omega) ?_;intro v6 w6 aG;obtain⟨va6,vn6,vc6,rfl⟩:=aG.shape;refine Hid.out ?_)
    refine Lib.hid ?_
    have aC:Hid _:=aG
    clear aG aL
    go_wp2_with fail
    refine (hn B w w6 _ _ ks[k] _ d aC.out (aW.out _ aC.out.below) aM.1 aM.2 (by have h1:=aN.out (k+1);rw[HS.out,if_neg (by omega)]at h1;simp at h1 ⊢;omega) (hT.on aC.out.below)).mono ?_
    rintro e w7 ⟨v7,rfl,aH⟩
    obtain⟨va7,vn7,vc7,rfl⟩:=aH.shape
    have HF:Hid _:=qcZ aH (l':=l++[123]++joinL ((zipL ns (ks.map (txtL n))).take (k+1))) (by rw[HS.out,if_neg (by omega)];simp)
    clear aH aC
    go_wp2_with fail
    go_roundw
    case rel=>exact⟨k+1,by omega,by go_num,HF.out⟩
    case measure=>simp[intOf];omega
  ·have aX:k=ks.length:=by omega
   have aD:Hid (Buf B w wr (.slice va2 vn2 vc2) (l++[123]++joinL (zipL ns (ks.map (txtL n))))):=qcZ aJ (by
    have e:ks.length=(zipL ns (ks.map (txtL n))).length:=by rw[qbP _ _ (by simpa using aO.out)];simp
    rw[aX,e,List.take_length])
   clear aB aJ aX aA
   go_wp2_with (at_builtin;refine qaX rfl (.tmp 40) (.tmp 41) rfl B (.slice va2 vn2 vc2) _ rfl w wr 125 125 rfl aD.out rfl (by simp;omega) ?_;intro v3 w3 aI;obtain⟨va3,vn3,vc3,rfl⟩:=aI.shape;refine Hid.out ?_)
   refine Lib.hid ?_
   have HF:Hid _:=qcZ (aI.from aU.out) (l':=l++(123 :: joinL (zipL ns (ks.map (txtL n)))++[125])) (by simp)
   clear aI aD
   go_wp2_with fail
   go_ret
   exact⟨_,rfl,HF.out⟩
end Go.Proofs.YtelogmjfekhmpaaGreatDoor
