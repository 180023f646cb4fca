import Derived.Test.YtelogmjfekhmpaaGreatDoorRow1
import Derived.Test.YtelogmjfekhmpaaGreatDoorShelf
import Derived.Lib.Hide
namespace Go.Proofs.YtelogmjfekhmpaaGreatDoor
set_option maxRecDepth 100000
set_option maxHeartbeats 16000000
open Go.RowKit
theorem Tryz.info_strO:(Tryz.prog.info? 9).map (fun i=>(i.zero,i.size,i.bytes))=some (some (.string ⟨#[]⟩),1,16):=by kernel_rfl
theorem qeO (s:ByteArray) (w:World) (h:s.size<=10000):Calls Tryz.prog 85 #[.string s] w fun e w'=>e=.returned (.string s)/\Below w.heap.size w w':=by
 have HC:Hid (Calls Tryz.prog 107 _ _ _):=Tryz.stringslite_Clone s w (by omega)
 go_enter Tryz.func85,Tryz.ntmps85
 go_wp2_with fail
 refine HC.out.mono ?_
 rintro e w1 ⟨rfl,hb⟩
 clear HC
 go_wp2_with fail
 go_ret
 exact⟨rfl,hb⟩
theorem qjC (S:Nat->Prop) (l:List ByteArray) (v:Value) (w:World) (hl:StrsIn S w l v) (hB:∀ b,S b->b<w.heap.size) (hlen:l.length<=10000) (hs:∀ s,s∈l->s.size<=10000) :
  Calls Tryz.prog 136 #[v] w fun e w'=>∃ v',e=.returned v' /\ w'.ownsRow w.heap.size 9 1 v' l.length (l.map .string)/\Below w.heap.size w w':=by
 obtain⟨ao,cap,rfl,-,-,aA⟩:=hl
 obtain⟨i0,hi,aG,aH,aI⟩:=info_parts Tryz.info_strO
 have HI:aE (_/\_/\_/\_):=⟨hi,aG,aH,aI⟩
 have HS:=hidF hs
 clear hi aG aH aI hs
 go_enter Tryz.func136,Tryz.ntmps136
 go_wp2_with fail
 go_loopw [3,8] (fun v i wr=>∃ k:Nat,k<=l.length/\i=.int .i64 k/\wr.ownsRow w.heap.size 9 1 v k ((l.take k).map .string)/\Below w.heap.size w wr) (fun _ i _=>l.length - (intOf i).toNat)
 case atStart=>exact⟨0,Nat.zero_le _,rfl,World.ownsRow_nil _ _ _ _,Below.refl _ _⟩
 case round=>
  obtain⟨k,hk,rfl,aF,aC⟩:=hrel
  obtain⟨va,vc,rfl⟩:=qhM aF
  have aQ:=aC.size
  have HX:=hidF aF
  clear aF
  by_cases aJ:k<l.length
  ·obtain⟨b,off,rfl,aT,aP⟩:=aA (by intro h;rw[h]at aJ;simp at aJ)
   have f0:=(aC.cell (p:=⟨b,off+k,none⟩) (hB b aT)).trans (aP k aJ)
   have HC:aE (Calls Tryz.prog 85 _ _ _):=qeO l[k] wr (HS.out _ (List.getElem_mem aJ))
   have HT:aE ((l.take (k+1)).map Value.string=(l.take k).map .string++[.string l[k]]):=by show _=_;rw[List.take_succ_eq_append_getElem aJ,List.map_append];rfl
   clear aA aP
   generalize l[k]=nm at *
   go_wp2_with fail
   refine HC.out.mono ?_
   rintro e w2 ⟨rfl,aK⟩
   have aR:=aK.size
   have aL:aE (w2.ownsRow w.heap.size 9 1 (.slice va k vc) k ((l.take k).map .string)):=qbG HX.out (fun g' hg'=>aK.block g' (r1_lt HX.out g' hg').2)
   have aO:aE (Below w.heap.size w w2):=aC.trans (aK.mono aQ)
   clear aK f0 HC
   go_wp2_with (at_builtin;refine wpList_append_lies _ rfl (.tmp 12) (.tmp 15) 22 rfl w.heap.size 9 i0 _ 1 16 Tryz.underlying22 HI.out.1 HI.out.2.1 HI.out.2.2.1 HI.out.2.2.2 rfl (by decide) (.slice va k vc) k ((l.take k).map .string) rfl (aL.out.alloc _) ⟨w2.heap.size,0,none⟩ 1 1 [.string nm] rfl rfl (World.news_of_block (heap_alloc_new w2 _)) (by simp[Value.oneCell']) (by decide) (by unfold maxLen;omega) (by omega) (by simp;omega) (w2.heap.size+1) (by simp) ?_;intro g cap w3 aD aB aN aU;refine aE.out ?_)
   refine Lib.hid ?_
   have HF:aE (w3.ownsRow w.heap.size 9 1 (.slice (some ⟨g,0,none⟩) (k+1) cap) (k+1) ((l.take (k+1)).map .string)):=by
    show w3.ownsRow _ _ _ _ _ _
    rw[HT.out];exact aD
   have aS:aE (Below w.heap.size w w3):=(aO.out.alloc (by omega) (.cells #[.string nm] 9)).grown aB (by simp;omega) (fun q hq=>(r1_lt aL.out q hq).1)
   clear aD aB aN aL HX aO
   go_wp2_with fail
   go_roundw
   case rel=>exact⟨k+1,by omega,by go_num,HF.out,aS.out⟩
   case measure=>simp[intOf];omega
  ·have aM:k=l.length:=by omega
   have HP:aE (wr.ownsRow w.heap.size 9 1 (.slice va k vc) l.length (l.map .string)):=by
    have h1:=HX.out
    rw[aM,List.take_length]at h1
    rw[aM];exact h1
   clear aM aA HX
   go_wp2_with fail
   go_ret
   exact⟨_,rfl,HP.out,aC⟩
theorem qsE {α:Type} (f:α->Nat) (l:List α) (x:α):sumL f (l++[x])=sumL f l+f x:=by
 induction l with
 | nil=>simp[sumL]
 | cons a r ih=>simp only[List.cons_append,sumL,ih];omega
end Go.Proofs.YtelogmjfekhmpaaGreatDoor
