import Derived.Test.YtelogmjfekhmpaaGreatDoorMark0
import Derived.Deep.RegionLaw
namespace Go.Proofs.YtelogmjfekhmpaaGreatDoor
set_option maxRecDepth 100000
set_option maxHeartbeats 16000000
open Go.RowKit
def SpN (w:World) (v:Value) (L:List Spot):Prop:=
 ∃ (ao:Option Addr) (cap:Nat),v=.slice ao L.length cap/\L.length<=maxLen/\(∀ i (h:i<L.length),∃ b off,ao=some ⟨b,off,none⟩/\L[i]=⟨b,off+i,true⟩)/\∀ s,s∈L->s.ok w
theorem SpN.sim {w w':World} {v:Value} {L:List Spot} (h:SpN w v L) (hs:Sim w w'):SpN w' v L:=by
 obtain⟨ao,cap,hv,hl,ha,hk⟩:=h
 exact⟨ao,cap,hv,hl,ha,fun s hsL=>Spot.ok_sim (hk s hsL) hs⟩
theorem SpN.ok {w:World} {v:Value} {L:List Spot} (h:SpN w v L):∀ s,s∈L->s.ok w:=by
 obtain⟨-,-,-,-,-,hk⟩:=h
 exact hk
theorem qgU (L:List Spot) (v:Value) (k:Int) (w:World) (h:SpN w v L) (h0:1<=k) (h1:k+L.length<=1000000000) :
  Calls Tryz.prog 17 #[v,.int .i64 k] w fun e w'=>e=.returned (.int .i64 (k+L.length))/\Wrote L k w w':=by
 obtain⟨ao,cap,rfl,aJ,ha,aG⟩:=h
 have aE:Hid (∀ s,s∈L->s.ok w):=aG
 clear aG
 go_enter Tryz.func17,Tryz.ntmps17
 go_wp2_with fail
 go_loopw [1,5] (fun a i wr=>∃ j:Nat,j<=L.length/\i=.int .i64 j/\a=.int .i64 (k+j)/\Wrote (L.take j) k w wr) (fun _ i _=>L.length - (intOf i).toNat)
 case atStart=>exact⟨0,Nat.zero_le _,rfl,by simp,by simpa using Wrote.refl k w⟩
 case round=>
  obtain⟨j,hj,rfl,rfl,aA⟩:=hrel
  by_cases hlt:j<L.length
  ·obtain⟨b,off,rfl,aD⟩:=ha j hlt
   have aB:=aA.sim (fun s hs=>aE.out s (List.mem_of_mem_take hs))
   have aF:=Spot.ok_sim (aE.out _ (List.getElem_mem hlt)) aB
   rw[aD]at aF
   obtain⟨⟨x,hx⟩,aH⟩:=aF
   have HC:Hid (Calls Tryz.prog 36 #[.int .i64 (k+j)] wr fun e w'=>e=.returned (.string (mt (k+j)))/\Below wr.heap.size wr w' /\ w'.cell? ⟨b,off+j,none⟩=some (.string x)/\w'.frozen? ⟨b,off+j,none⟩=false):=by
    refine (qfS (k+j) wr (by omega) (by omega)).mono ?_
    rintro e w' ⟨rfl,hb⟩
    exact⟨rfl,hb,(hb.cell (p:=⟨b,off+j,none⟩) (mlt (o:=off+j) hx)).trans hx,(hb.frozen (p:=⟨b,off+j,none⟩) (mlt (o:=off+j) hx)).trans aH⟩
   have HN:Hid (∀ w',Below wr.heap.size wr w'->Wrote (L.take (j+1)) k w (w'.setCell ⟨b,off+j,none⟩ (.string (mt (k+j))))):=by
    intro w' hb
    have:=(aA.below hb).snoc L[j]
    rw[List.take_succ_eq_append_getElem hlt]
    rw[aD]at this ⊢
    simpa [Spot.at,Spot.val,List.length_take,Nat.min_eq_left (Nat.le_of_lt hlt)] using this
   clear aB aA ha aD hx aH
   generalize mt (k+j)=tx at *
   go_wp2_with fail
   refine HC.out.mono ?_
   rintro e w1 ⟨rfl,aI,aK,aL⟩
   have HW:Hid _:=HN.out w1 aI
   clear aI HC HN
   go_wp2_with fail
   go_roundw
   case rel=>exact⟨j+1,by omega,by go_num,by go_num,HW.out⟩
   case measure=>simp[intOf];omega
  ·have aC:j=L.length:=by omega
   have HW:Hid (Wrote L k w wr/\k+(j:Int)=k+(L.length:Int)):=by
    rw[aC,List.take_length]at aA
    exact⟨aA,by rw[aC]⟩
   clear aC aA ha
   go_wp2_with fail
   go_ret
   exact⟨qaN HW.out.2,HW.out.1⟩
theorem qgV (L:List Spot) (v:Value) (k:Int) (w:World) (h:SpN w v L) (hh:Holds w L k) (h0:1<=k) (h1:k+L.length<=1000000000) :
  Calls Tryz.prog 19 #[v,.int .i64 k] w fun e w'=>e=.returned (.int .i64 (k+L.length))/\Below w.heap.size w w':=by
 obtain⟨ao,cap,rfl,aH,ha,-⟩:=h
 have HH:Hid (Holds w L k):=hh
 clear hh
 go_enter Tryz.func19,Tryz.ntmps19
 go_wp2_with fail
 go_loopw [1,5] (fun a i wr=>∃ j:Nat,j<=L.length/\i=.int .i64 j/\a=.int .i64 (k+j)/\Below w.heap.size w wr) (fun _ i _=>L.length - (intOf i).toNat)
 case atStart=>exact⟨0,Nat.zero_le _,rfl,by simp,Below.refl _ _⟩
 case round=>
  obtain⟨j,hj,rfl,rfl,aA⟩:=hrel
  by_cases hlt:j<L.length
  ·obtain⟨b,off,rfl,aD⟩:=ha j hlt
   have hx:=xgH HH.out j hlt
   rw[aD]at hx
   have aB:w.cell? ⟨b,off+j,none⟩=some (.string (mt (k+j))):=by simpa [Spot.at,Spot.val] using hx
   have f0:=(aA.cell (p:=⟨b,off+j,none⟩) (mlt aB)).trans aB
   have aF:=aA.size
   have HC:Hid (Calls Tryz.prog 36 #[.int .i64 (k+j)] wr.drew fun e w'=>e=.returned (.string (mt (k+j)))/\Below wr.heap.size wr w' /\ w'.cell? ⟨b,off+j,none⟩=some (.string (mt (k+j)))):=by
    refine (qfS (k+j) wr.drew (by omega) (by omega)).mono ?_
    rintro e w' ⟨rfl,hb⟩
    have aC:Below wr.heap.size wr w':=((Below.refl _ _).drew).trans hb
    exact⟨rfl,aC,(aC.cell (p:=⟨b,off+j,none⟩) (mlt (o:=off+j) f0)).trans f0⟩
   clear ha aD hx aB
   generalize mt (k+j)=tx at *
   go_wp2_with fail
   go_region_law (go_simp;go_at_call 36;refine HC.out.mono ?_;rintro e w1 ⟨rfl,aE,aI⟩)
   all_goals
    have aG:=qaA aA aF aE
    clear aE
    go_wp2_with fail
    go_roundw
    case rel=>exact⟨j+1,by omega,by go_num,by go_num,aG⟩
    case measure=>simp[intOf];omega
  ·have HW:Hid (k+(j:Int)=k+(L.length:Int)):=by show _=_;omega
   clear ha
   go_wp2_with fail
   go_ret
   exact⟨qaN HW.out,aA⟩
end Go.Proofs.YtelogmjfekhmpaaGreatDoor
