import Derived.Test.YtelogmjfekhmpaaGreatDoorRep
import Derived.Deep.RegionWith
namespace Go.Proofs.YtelogmjfekhmpaaGreatDoor
set_option maxRecDepth 100000
set_option maxHeartbeats 16000000
open Go.RowKit
theorem qnO (S S':Nat->Prop) (l:List ByteArray) (v v':Value) (w:World) (hl:StrsIn S w l v) (hl':StrsIn S' w l v') (hB:∀ b,S b->b<w.heap.size) (hB':∀ b,S' b->b<w.heap.size) :
  Calls Tryz.prog 15 #[v,v'] w fun e w'=>e=.returned (.bool true)/\Below w.heap.size w w':=by
 obtain⟨ao,cap,rfl,aE,hs,hc⟩:=hl
 obtain⟨ao',cap',rfl,-,-,aF⟩:=hl'
 unfold maxLen at aE
 have aI:((l.length:Int) != (l.length:Int))=false:=by simp
 go_enter Tryz.func15,Tryz.ntmps15
 go_wp2_with fail
 go_loopw [5] (fun i wr=>∃ k:Nat,k<=l.length/\i=.int .i64 k/\Below w.heap.size w wr) (fun i _=>l.length - (intOf i).toNat)
 case atStart=>exact⟨0,Nat.zero_le _,rfl,Below.refl _ _⟩
 case round=>
  obtain⟨k,hk,rfl,aB⟩:=hrel
  by_cases aD:k<l.length
  ·obtain⟨b,off,rfl,aH,aC⟩:=hc (by intro h;rw[h]at aD;simp at aD)
   obtain⟨b',off',rfl,aG,aA⟩:=aF (by intro h;rw[h]at aD;simp at aD)
   have f0:=(aB.cell (p:=⟨b,off+k,none⟩) (hB b aH)).trans (aC k aD)
   have f1:=(aB.cell (p:=⟨b',off'+k,none⟩) (hB' b' aG)).trans (aA k aD)
   have aJ:=hs l[k] (List.getElem_mem aD)
   clear hc aF aC aA hs
   generalize l[k]=s at *
   go_wp2_with fail
   go_region
   all_goals go_wp2_with fail
   all_goals
    go_roundw
    case rel=>exact⟨k+1,by omega,by go_num,aB.drew⟩
    case measure=>simp[intOf];omega
  ·clear hc aF hs
   go_wp2_with fail
   go_ret
   exact⟨rfl,aB⟩
end Go.Proofs.YtelogmjfekhmpaaGreatDoor
