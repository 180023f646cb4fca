import Derived.Test.YtelogmjfekhmpaaGreatDoorImplText
import Derived.Deep.RegionLaw
namespace Go.Proofs.YtelogmjfekhmpaaGreatDoor
set_option maxRecDepth 100000
set_option maxHeartbeats 16000000
open Go.RowKit
theorem qmU (n:Nat) (hn:qkJ n) (B:Nat) (w0 w:World) (v:Value) (l:List UInt8) (ks:List (T n)) (kv:Value) (d:Int) (hb:Buf B w0 w v l) (hr:Row1 (fun b=>b<B) w (InnerT (fun b=>b<B) w n) ks kv)
  (hg:ks.all (fun x=>goodT n x d)=true) (hc:1+sumL (fun x=>cntT n x) ks<=120) (hl:l.length+(qfB (txtL n) ks).length<=20000) (hT:Tens B w) :
  Calls Tryz.prog 152 #[v,kv] w fun e w'=>∃ v',e=.returned v' /\ Buf B w0 w' v' (l++qfB (txtL n) ks):=by
 obtain⟨ao,cap,rfl,aD,aA⟩:=hr
 unfold maxLen at aD
 obtain⟨va,vn,vc,rfl⟩:=hb.shape
 cases ks with
 | nil=>
  rw[List.length_nil]
  simp only[qfB,List.length_cons,List.length_nil]at hl
  go_enter Tryz.func152,Tryz.ntmps152
  go_wp2_with (at_builtin;refine qaX rfl (.tmp 8) (.tmp 9) rfl B (.slice va vn vc) l rfl w0 w 126 126 rfl hb rfl (by omega) ?_;intro v1 w1 aB;obtain⟨va1,vn1,vc1,rfl⟩:=aB.shape;refine Hid.out ?_)
  refine Lib.hid ?_
  have aI:Hid _:=aB
  clear aB hb
  go_wp2_with fail
  go_ret
  exact⟨_,rfl,aI.out⟩
 | cons k r=>
  obtain⟨b,off,rfl,aG,aH⟩:=aA (by simp)
  obtain⟨c,e0,aE⟩:=aH 0 (by simp)
  rw[Nat.add_zero]at e0
  rw[List.getElem_cons_zero]at aE
  obtain⟨ku,kx,rfl⟩:=aE.iface
  rw[List.length_cons]at aD ⊢
  have aK:(((r.length:Nat):Int)+1==0)=false:=by simp;omega
  simp only[qfB,List.length_cons]at hl
  simp only[List.all_cons,Bool.and_eq_true]at hg
  simp only[sumL]at hc
  have aL:=hb.le
  have HB:Hid (Buf B w w (.slice va vn vc) l):=hb.here
  have aJ:Hid (Buf B w0 w (.slice va vn vc) l):=hb
  have HC:Hid (∀ (W:World) (v1:Value),Buf B w W v1 (l++[63])->Calls Tryz.prog 118 #[v1,.iface ku kx] W fun e w'=>∃ v',e=.returned v' /\ Buf B w w' v' (l++[63]++txtL n k)):=fun W v1 h1=>
   hn B w W v1 _ k _ d h1 (aE.keep (qaB h1.below (fun _ h=>h)) (fun _ h=>h)) hg.1 (by omega) (by simp;omega) (hT.on h1.below)
  have aC:Hid (∀ W,Below B w W->W.cell? ⟨b,off,none⟩=some (.iface ku kx)):=fun W hW=>(hW.cell (p:=⟨b,off,none⟩) aG).trans e0
  clear aA aH aE hn hT hg hc hb
  have aM:b<w.heap.size:=by have:b<B:=aG;omega
  go_enter Tryz.func152,Tryz.ntmps152
  go_wp2_with fail
  go_region_law (first
   | (refine qqP rfl (.tmp 11) (.tmp 12) rfl B (.slice va vn vc) l rfl w 63 (by first|exact (HB.out.alloc _).drew|exact HB.out.drew.alloc _) w.heap.size rfl (by simp[go_sem]) (by omega) ?_;intro v1 w1 aB;obtain⟨va1,vn1,vc1,rfl⟩:=aB.shape;have aN:=aC.out _ aB.below)
   | (go_simp;go_at_call 118;refine (HC.out _ _ (by first|assumption|exact Buf.drew (by assumption))).mono ?_;rintro e w2 ⟨v2,rfl,aF⟩;obtain⟨va2,vn2,vc2,rfl⟩:=aF.shape))
  all_goals
   have HF:Hid _:=qcZ (aF.from aJ.out) (l':=l++qfB (txtL n) (k :: r)) (by simp[qfB])
   clear aF
   go_wp2_with fail
   go_ret
   exact⟨_,rfl,HF.out⟩
end Go.Proofs.YtelogmjfekhmpaaGreatDoor
